package tests

import (
	"fmt"
	"math/rand"
	"testing"

	"loop.example/g01141/impl"
)

// l5Arguments are those of all functions of chapter 5 at once: a may be a matrix, and rowLists and lists may be a spread.
type l5Arguments struct {
	m, n, a         [][]int
	rowSigns, signs []int
	rowLists, lists [][]int
	b               impl.Box
	lid             []int
	k               int
}

func (v l5Arguments) call() []layerResult {
	var results []layerResult
	add := func(r layerResult) { results = append(results, r) }
	is := impl.IsSignGame(v.m)
	add(reportResult("IsSignGame", is, is))
	n, ok := impl.SignBias(v.m)
	add(numberResult("SignBias", ok, n))
	list, other, ok := impl.BestSigns(v.m)
	add(layerResult{"BestSigns", "", [][]int{list, other}, len(list) == 0 && len(other) == 0, ok})
	n, ok = impl.CutOf(v.m)
	add(numberResult("CutOf", ok, n))
	rows, ok := impl.SwitchSigns(v.m, v.rowSigns, v.signs)
	add(rowsResult("SwitchSigns", rows, ok))
	rows, ok = impl.FirstSwitched(v.m)
	add(rowsResult("FirstSwitched", rows, ok))
	is, ok = impl.AreSwitched(v.m, v.n)
	add(reportResult("AreSwitched", is, ok))
	rows, ok = impl.SignFunctional(v.m)
	add(rowsResult("SignFunctional", rows, ok))
	n, ok = impl.SignWorth(v.m, v.b)
	add(numberResult("SignWorth", ok, n))
	is, ok = impl.IsSpread(v.m, v.rowLists, v.lists)
	add(reportResult("IsSpread", is, ok))
	n, length, ok := impl.SpreadWorth(v.m, v.rowLists, v.lists)
	add(numberResult("SpreadWorth", ok, n, length))
	is, ok = impl.IsNeverNegative(v.a)
	add(reportResult("IsNeverNegative", is, ok))
	is, ok = impl.IsLid(v.m, v.lid, v.k)
	add(reportResult("IsLid", is, ok))
	list, ok = impl.EvenLid(v.m, v.k)
	return append(results, listResult("EvenLid", list, ok))
}

func (v l5Arguments) withRoom() l5Arguments {
	for _, rows := range []*[][]int{&v.m, &v.n, &v.a, &v.rowLists, &v.lists, &v.b.Rows} {
		*rows = rowsWithRoom(*rows)
	}
	v.rowSigns, v.signs, v.lid = withRoom(v.rowSigns), withRoom(v.signs), withRoom(v.lid)
	return v
}

func (v l5Arguments) memory() string {
	s := fmt.Sprint(v.b.X, v.b.Y, v.b.Whole, v.k) + memoryOfLists(v.rowSigns, v.signs, v.lid)
	for _, rows := range [][][]int{v.m, v.n, v.a, v.rowLists, v.lists, v.b.Rows} {
		s += memoryOfRows(rows)
	}
	return s
}

// spoil changes at most one of the arguments.
func (v *l5Arguments) spoil(r *rand.Rand) {
	tables := []*[][]int{&v.m, &v.n, &v.a, &v.rowLists, &v.lists}
	lists := []*[]int{&v.rowSigns, &v.signs, &v.lid}
	switch place := r.Intn(15); {
	case place < len(tables):
		*tables[place] = wildRows(r, *tables[place])
	case place < len(tables)+len(lists):
		*lists[place-len(tables)] = wildList(r)
	case place == len(tables)+len(lists):
		v.k = wildInt(r)
	}
}

func wildL5Arguments(r *rand.Rand) l5Arguments {
	x, y := 1+r.Intn(3), 1+r.Intn(3)
	s := someSpread(r, x, y, 1+r.Intn(impl.MaxSpread))
	v := l5Arguments{
		m: someSignNumbers(r, x, y), n: someSignNumbers(r, x, y), a: someSymmetric(r, x+y), rowSigns: someSigns(r, x), signs: someSigns(r, y),
		rowLists: s.rows, lists: s.places, b: wildBox(r, x, y), k: 1 + r.Intn(impl.MaxTimes),
	}
	v.lid = someLid(r, v.m, v.k)
	if r.Intn(2) == 0 {
		v.n = switchedByHand(v.m, v.rowSigns, v.signs)
	}
	v.spoil(r)
	return v
}

func TestLayer5IsTotalAndChangesNothing(t *testing.T) {
	r := rand.New(rand.NewSource(87))
	checkTotal(t, func() l5Arguments { return wildL5Arguments(r) })
}

// The arguments are such that a function could return a part of them as it is: nothing is switched, the sign game is the first one
// of all that are switched, the signs are the best ones, and the lid is the least even one.
func TestLayer5SharesNoMemory(t *testing.T) {
	for _, size := range allSizes() {
		x, y := size[0], size[1]
		for _, n := range []int{0, -1} {
			m := evenNumbers(x, y, n)
			rows, places, _ := impl.BestSigns(m)
			for _, signs := range [][2][]int{{rows, places}, {plusSigns(x), plusSigns(y)}} {
				lid, _ := impl.EvenLid(m, 1)
				checkSharesNothing(t, l5Arguments{
					m: m, n: copyRows(m), a: framed(x+y, 1, 0), rowSigns: signs[0], signs: signs[1],
					rowLists: asLists(signs[0]), lists: asLists(signs[1]), b: playBoxByHand(x, y, make([]int, x+y), 1), lid: lid, k: 1,
				})
			}
		}
	}
}

func TestNothingAppendedToOneRowTreadsOnTheNext(t *testing.T) {
	for _, size := range allSizes() {
		x, y := size[0], size[1]
		m := markedSigns(x, y)
		switched, _ := impl.SwitchSigns(m, plusSigns(x), plusSigns(y))
		first, _ := impl.FirstSwitched(m)
		f, _ := impl.SignFunctional(m)
		for _, rows := range [][][]int{switched, first, f} {
			kept := copyRows(rows)
			for i := range rows {
				_ = append(rows[i], 1000)
			}
			if len(rows) == 0 || !sameRows(rows, kept) {
				t.Errorf("%v became %v", kept, rows)
			}
		}
	}
}
