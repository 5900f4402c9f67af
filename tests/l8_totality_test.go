package tests

import (
	"fmt"
	"math/rand"
	"slices"
	"testing"

	"loop.example/g01141/impl"
)

// l8Arguments are those of all functions of chapter 8 at once; i and j are counted from 1 here, so that nothing is no row.
type l8Arguments struct {
	t             [][]int
	p             impl.Talk
	rows, columns int
	i, j, bit     int
	first, second []int
	g             impl.Game
}

// pairLists are in the same memory as the pairs.
func pairLists(pairs [][2]int) [][]int {
	lists := make([][]int, 0, len(pairs))
	for place := range pairs {
		lists = append(lists, pairs[place][:])
	}
	return lists
}

// talkResults look at the lists of a Talk three times: all at once, and alone, with room behind them.
func talkResults(name string, p impl.Talk, ok bool) []layerResult {
	lists := slices.Concat(p.Says, pairLists(p.Next))
	if p.Speaker != nil {
		lists = append(lists, p.Speaker)
	}
	all := layerResult{name, "", lists, isZeroTalk(p), ok}
	return []layerResult{all, rowsResult(name+", Says", p.Says, ok), rowsResult(name+", Next", pairLists(p.Next), ok)}
}

func (v l8Arguments) call() []layerResult {
	var results []layerResult
	add := func(list ...layerResult) { results = append(results, list...) }
	is := impl.IsTask(v.t)
	add(reportResult("IsTask", is, is))
	is, ok := impl.IsTalk(v.p, v.rows, v.columns)
	add(reportResult("IsTalk", is, ok))
	list, n, ok := impl.RunTalk(v.p, v.rows, v.columns, v.i-1, v.j-1)
	add(scoredResult("RunTalk", list, n, ok))
	is, ok = impl.TalkSolves(v.p, v.t)
	add(reportResult("TalkSolves", is, ok))
	n, ok = impl.TalkBits(v.p, v.rows, v.columns)
	add(numberResult("TalkBits", ok, n))
	n, ok = impl.NeedOf(v.t)
	add(numberResult("NeedOf", ok, n))
	n, list, ok = impl.FirstSplit(v.t)
	add(scoredResult("FirstSplit", list, n, ok))
	p, ok := impl.BestTalk(v.t)
	add(talkResults("BestTalk", p, ok)...)
	is, ok = impl.IsPlain(v.t, v.first, v.second)
	add(reportResult("IsPlain", is, ok))
	pairs, ok := impl.FoolingSet(v.t, v.bit)
	add(rowsResult("FoolingSet", pairLists(pairs), ok))
	n, ok = impl.CoverNumber(v.t, v.bit)
	add(numberResult("CoverNumber", ok, n))
	n, other, ok := impl.RanksOf(v.t)
	add(numberResult("RanksOf", ok, n, other))
	n, ok = impl.CountRows(v.t)
	add(numberResult("CountRows", ok, n))
	turned, ok := impl.TurnTask(v.t)
	add(rowsResult("TurnTask", turned, ok))
	n, ok = impl.TalkValue(v.g)
	add(numberResult("TalkValue", ok, n))
	return results
}

func pairsWithRoom(pairs [][2]int) [][2]int {
	roomy := append(slices.Clone(pairs), [2]int{77, 78}, [2]int{79, 80})
	return roomy[:len(pairs)]
}

func (v l8Arguments) withRoom() l8Arguments {
	v.t, v.g = rowsWithRoom(v.t), gameWithRoom(v.g)
	v.p = impl.Talk{Speaker: withRoom(v.p.Speaker), Says: rowsWithRoom(v.p.Says), Next: pairsWithRoom(v.p.Next)}
	v.first, v.second = withRoom(v.first), withRoom(v.second)
	return v
}

func (v l8Arguments) memory() string {
	s := fmt.Sprint(v.rows, v.columns, v.i, v.j, v.bit, v.g.X, v.g.Y, len(v.p.Next), v.p.Next[:cap(v.p.Next)])
	s += memoryOfRows(v.t) + memoryOfRows(v.p.Says) + memoryOfRows(v.g.Wins)
	return s + memoryOfLists(v.p.Speaker, v.first, v.second, v.g.Weights)
}

// wildTalk is, in half of all cases, one that solves the task, if there is such a Talk.
func wildTalk(r *rand.Rand, table [][]int) impl.Talk {
	p := someTalk(r, len(table), len(table[0]), 1+r.Intn(32))
	if best, ok := impl.BestTalk(table); ok && r.Intn(2) == 0 {
		p = best
	}
	step := r.Intn(len(p.Speaker))
	switch r.Intn(12) {
	case 0:
		p.Says = wildRows(r, p.Says)
	case 1:
		p.Speaker[step] = wildInt(r)
	case 2:
		p.Speaker = wildList(r)
	case 3:
		p.Next[step][r.Intn(2)] = wildInt(r)
	case 4:
		p.Next = p.Next[:step]
	case 5:
		p.Next = nil
	}
	return p
}

func (v *l8Arguments) spoil(r *rand.Rand) {
	switch r.Intn(16) {
	case 0:
		v.first = wildList(r)
	case 1:
		v.second = wildList(r)
	case 2, 3, 4, 5, 6:
		*[]*int{&v.rows, &v.columns, &v.i, &v.j, &v.bit}[r.Intn(5)] = wildInt(r)
	case 7, 8:
		v.t = wildRows(r, v.t)
	}
}

func wildL8Arguments(r *rand.Rand) l8Arguments {
	rows, columns := 1+r.Intn(4), 1+r.Intn(4)
	table := someTask(r, rows, columns)
	firsts, seconds := allPlaces(rows)[1:], allPlaces(columns)[1:]
	v := l8Arguments{
		t: table, p: wildTalk(r, table), rows: rows, columns: columns, i: 1 + r.Intn(rows), j: 1 + r.Intn(columns), bit: r.Intn(2),
		first: firsts[r.Intn(len(firsts))], second: seconds[r.Intn(len(seconds))], g: wildGame(r, 1+r.Intn(3), 1+r.Intn(3)),
	}
	v.spoil(r)
	return v
}

func TestLayer8IsTotalAndChangesNothing(t *testing.T) {
	r := rand.New(rand.NewSource(166))
	checkTotal(t, func() l8Arguments { return wildL8Arguments(r) })
}

// The arguments are such that a function could return a part of them as it is: the Talk is the best one, some rows are what is said
// first, some tasks are the same when they are turned, and the lists are as long as those of a FoolingSet.
func TestLayer8SharesNoMemory(t *testing.T) {
	for _, table := range [][][]int{task("01"), task("0", "1"), task("01", "10"), task("00", "01"), task("0111", "0011", "0001"), task("1000", "0100", "0010", "0001"), task("010", "101", "010")} {
		p, ok := impl.BestTalk(table)
		if !ok {
			t.Fatalf("BestTalk(%v) fails", table)
		}
		for bit := range 2 {
			checkSharesNothing(t, l8Arguments{
				t: table, p: p, rows: len(table), columns: len(table[0]), i: 1, j: 1, bit: bit,
				first: []int{0}, second: []int{0}, g: equalSumsGame(1),
			})
		}
	}
	for _, size := range taskSizes() {
		for number := range 2 {
			checkSharesNothing(t, l8Arguments{
				t: evenTask(size[0], size[1], number), p: chainTalk(32, make([]int, size[0])...), rows: size[0], columns: size[1],
				i: size[0], j: size[1], bit: number, first: eventsFrom(0, size[0]), second: eventsFrom(0, size[1]), g: markedGame(3, 3),
			}, "FirstSplit", "BestTalk", "BestTalk, Says", "BestTalk, Next")
		}
	}
}

// The pairs behind those of a result must not be in the memory of another result.
func TestPairsShareNoMemory(t *testing.T) {
	table := task("1000", "0100", "0010", "0001")
	for range 2 {
		pairs, first := impl.FoolingSet(table, 1)
		again, second := impl.FoolingSet(table, 1)
		p, third := impl.BestTalk(table)
		q, fourth := impl.BestTalk(table)
		if !first || !second || !third || !fourth || !slices.Equal(pairs, again) || !sameTalk(p, q) {
			t.Fatalf("%v and %v, %v and %v", pairs, again, p, q)
		}
		for _, list := range [][][2]int{pairs, p.Next} {
			for i := range list[:cap(list)] {
				list[:cap(list)][i] = [2]int{99, 99}
			}
		}
		wantFooling(t, table, 1, again...)
		wantBestTalk(t, table, q)
	}
}
