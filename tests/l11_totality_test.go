package tests

import (
	"fmt"
	"math/rand"
	"slices"
	"testing"

	"loop.example/g01141/impl"
)

// l11Arguments are those of all functions of chapter 11 at once.
type l11Arguments struct {
	a, b                          impl.Trio
	box                           impl.Box
	play, own, joint, odd         []int
	weights, chances              []int
	whole, groupWhole, alone, out int
	most                          int
}

func trioResult(name string, trio impl.Trio, ok bool) layerResult {
	return layerResult{name, fmt.Sprint(trio.Whole), trio.Rows, isZeroTrio(trio), ok}
}

func (v l11Arguments) call() []layerResult {
	var results []layerResult
	add := func(result layerResult) { results = append(results, result) }
	is := impl.IsTrio(v.a)
	add(reportResult("IsTrio", is, is))
	quiet, ok := impl.IsQuietTrio(v.a)
	add(reportResult("IsQuietTrio", quiet, ok))
	trio, ok := impl.TrioOf(v.play, v.whole)
	add(trioResult("TrioOf", trio, ok))
	trio, ok = impl.GroupTrio(v.alone, v.own, v.joint, v.groupWhole)
	add(trioResult("GroupTrio", trio, ok))
	trio, ok = impl.SumTrio(v.odd)
	add(trioResult("SumTrio", trio, ok))
	trio, ok = impl.MixTrios(v.a, v.b)
	add(trioResult("MixTrios", trio, ok))
	list, ok := impl.TripleAgreements(v.a)
	add(listResult("TripleAgreements", list, ok))
	n, ok := impl.SignSum(v.a)
	add(numberResult("SignSum", ok, n))
	n, ok = impl.GroupSum(v.a)
	add(numberResult("GroupSum", ok, n))
	b, ok := impl.PairOf(v.a, v.out)
	add(boxResult("PairOf", b, ok))
	trio, ok = impl.AddThird(v.box, v.chances, v.most)
	add(trioResult("AddThird", trio, ok))
	trio, ok = impl.TurnTrio(v.a)
	add(trioResult("TurnTrio", trio, ok))
	n, ok = impl.TrioValue(v.weights, v.odd)
	add(numberResult("TrioValue", ok, n))
	return results
}

func (v l11Arguments) withRoom() l11Arguments {
	v.a.Rows, v.b.Rows, v.box.Rows = rowsWithRoom(v.a.Rows), rowsWithRoom(v.b.Rows), rowsWithRoom(v.box.Rows)
	for _, list := range []*[]int{&v.play, &v.own, &v.joint, &v.odd, &v.weights, &v.chances} {
		*list = withRoom(*list)
	}
	return v
}

func (v l11Arguments) memory() string {
	s := fmt.Sprint(v.a.Whole, v.b.Whole, v.box.X, v.box.Y, v.box.Whole, v.whole, v.groupWhole, v.alone, v.out, v.most)
	s += memoryOfRows(v.a.Rows) + memoryOfRows(v.b.Rows) + memoryOfRows(v.box.Rows)
	return s + memoryOfLists(v.play, v.own, v.joint, v.odd, v.weights, v.chances)
}

// wildTrio may be flawed in its Whole or in one of its rows.
func wildTrio(r *rand.Rand) impl.Trio {
	trio := []impl.Trio{someTrio(r), someQuietTrio(r), someQuietTrio(r), groupOfWhole(r, 1+r.Intn(9))}[r.Intn(4)]
	switch r.Intn(10) {
	case 0:
		trio.Rows = wildRows(r, trio.Rows)
	case 1:
		trio.Whole = wildInt(r)
	}
	return trio
}

// spoil changes at most two of the arguments, beside the Trios and the Box.
func (v *l11Arguments) spoil(r *rand.Rand) {
	lists := []*[]int{&v.play, &v.own, &v.joint, &v.odd, &v.weights, &v.chances}
	if r.Intn(3) == 0 {
		*lists[r.Intn(len(lists))] = wildList(r)
	}
	numbers := []*int{&v.whole, &v.groupWhole, &v.alone, &v.out, &v.most}
	if r.Intn(3) == 0 {
		*numbers[r.Intn(len(numbers))] = wildInt(r)
	}
}

func wildL11Arguments(r *rand.Rand) l11Arguments {
	most := 1 + r.Intn(9)
	v := l11Arguments{
		a: wildTrio(r), b: wildTrio(r), box: wildFactor(r), play: someBits(r, 6), own: someBits(r, 2), joint: someBits(r, 8), odd: someBits(r, 8),
		weights: someNumbers(r, 8, impl.MaxStake), chances: someNumbers(r, 2, most),
		whole: 1 + r.Intn(impl.MaxWhole), groupWhole: 1 + r.Intn(impl.MaxWhole), alone: r.Intn(3), out: r.Intn(3), most: most,
	}
	v.spoil(r)
	return v
}

func TestLayer11IsTotalAndChangesNothing(t *testing.T) {
	r := rand.New(rand.NewSource(1117))
	checkTotal(t, func() l11Arguments { return wildL11Arguments(r) })
}

// The arguments are such that a function could return a part of them as it is: Trios that are turned to themselves, and a third
// player who always answers the same.
func TestLayer11SharesNoMemory(t *testing.T) {
	r := rand.New(rand.NewSource(1118))
	for _, play := range [][]int{{0, 0, 0, 0, 0, 0}, {0, 1, 0, 1, 0, 1}, {1, 1, 1, 1, 1, 1}, {0, 1, 1, 0, 1, 1}} {
		for player := range 3 {
			v := l11Arguments{
				a: trioOfByHand(play, 4), b: sumTrioByHand([]int{0, 0, 0, 1, 0, 1, 1, 0}), box: playBoxByHand(2, 2, play[:4], 4),
				play: play, own: play[:2], joint: slices.Concat(play[:4], play[:4]), odd: slices.Concat(play, play[:2]),
				weights: []int{4, 0, 0, 4, 0, 4, 4, 0}, chances: []int{1, 1}, whole: 4, groupWhole: 4, alone: player, out: player, most: 1,
			}
			checkSharesNothing(t, v)
			v.a, v.b = v.b, v.a
			checkSharesNothing(t, v)
			v.a, v.b, v.box, v.chances, v.most = noiseTrio(1), someQuietTrio(r), equalSums(), []int{0, 3}, 3
			checkSharesNothing(t, v)
			v.a = markedTrio()
			checkSharesNothing(t, v, "MixTrios", "PairOf")
		}
	}
}

// The same lists and Trios may stand in several places of the arguments.
func TestSharedArgumentsOfLayer11(t *testing.T) {
	row := []int{0, 2, 0, 1, 0, 0, 1, 0}
	trio := impl.Trio{Whole: 4, Rows: [][]int{row, row, row, row, row, row, row, row}}
	want := copyTrio(trio)
	wantMixedTrios(t, trio, trio, trioByTimes(want, 2))
	wantTurned(t, trio, turnedByHand(want))
	wantPair(t, trio, 1, pairByHand(want, 1, 1))
	bits := []int{0, 1, 1, 0, 1, 0, 0, 0}
	wantTrioValue(t, bits, bits, trioValueByHand(parities(), slices.Clone(bits), slices.Clone(bits)))
	wantGroup(t, 1, bits[:2], bits, 3)
	for _, turned := range []impl.Trio{mustTurnTrio(t, trio), mustTurnTrio(t, noiseTrio(1))} {
		if !overwrite(turned.Rows) {
			t.Error("the rows of a turned Trio share memory")
		}
	}
	wantTrio(t, "the Trio", trio, true, want)
}
