package tests

import (
	"fmt"
	"math/rand"
	"testing"

	"loop.example/g01141/impl"
)

// l6Arguments are those of all functions of chapter 6 at once; k and i are counted from 1 here, so that nothing is no kind.
type l6Arguments struct {
	b                  impl.Box
	g                  impl.Game
	f                  [][]int
	k, i, share, noise int
}

func (v l6Arguments) call() []layerResult {
	var results []layerResult
	add := func(r layerResult) { results = append(results, r) }
	b, ok := impl.EqualSumBox(v.k - 1)
	add(boxResult("EqualSumBox", b, ok))
	b, ok = impl.ExtremeBox(v.i - 1)
	add(boxResult("ExtremeBox", b, ok))
	is, ok := impl.IsExtreme(v.b)
	add(reportResult("IsExtreme", is, ok))
	list, ok := impl.EightSums(v.b)
	add(listResult("EightSums", list, ok))
	k, share, ok := impl.PartOf(v.b)
	add(numberResult("PartOf", ok, k, share))
	b, ok = impl.RestOf(v.b)
	add(boxResult("RestOf", b, ok))
	b, ok = impl.JoinPart(v.b, v.k-1, v.share)
	add(boxResult("JoinPart", b, ok))
	n, ok := impl.QuietValue(v.g)
	add(numberResult("QuietValue", ok, n))
	n, ok = impl.QuietBest(v.g)
	add(numberResult("QuietBest", ok, n))
	least, greatest, ok := impl.WorthRange(v.f)
	add(numberResult("WorthRange", ok, least, greatest))
	b, ok = impl.NoisySum(v.k-1, v.share, v.noise)
	add(boxResult("NoisySum", b, ok))
	is, ok = impl.IsEvenBox(v.b)
	add(reportResult("IsEvenBox", is, ok))
	b, ok = impl.EvenOut(v.b)
	return append(results, boxResult("EvenOut", b, ok))
}

func (v l6Arguments) withRoom() l6Arguments {
	v.b.Rows, v.g, v.f = rowsWithRoom(v.b.Rows), gameWithRoom(v.g), rowsWithRoom(v.f)
	return v
}

func (v l6Arguments) memory() string {
	s := fmt.Sprint(v.b.X, v.b.Y, v.b.Whole, v.g.X, v.g.Y, v.k, v.i, v.share, v.noise)
	return s + memoryOfRows(v.b.Rows) + memoryOfRows(v.g.Wins) + memoryOfRows(v.f) + memoryOfLists(v.g.Weights)
}

// spoil changes at most one of the arguments, beside the Box and the Game.
func (v *l6Arguments) spoil(r *rand.Rand) {
	numbers := []*int{&v.k, &v.i, &v.share, &v.noise}
	switch place := r.Intn(2 * len(numbers)); {
	case place < len(numbers):
		*numbers[place] = wildInt(r)
	case place == len(numbers):
		v.f = wildRows(r, v.f)
	}
}

// Two questions each, which this chapter needs, are the most frequent ones.
func wildL6Arguments(r *rand.Rand) l6Arguments {
	x, y := 2, 2
	if r.Intn(6) == 0 {
		x, y = 1+r.Intn(3), 1+r.Intn(3)
	}
	v := l6Arguments{
		b: wildBox(r, x, y), g: wildGame(r, x, y), f: someFunctional(r, x, y),
		k: 1 + r.Intn(impl.SumKinds), i: 1 + r.Intn(impl.ExtremeKinds), share: r.Intn(100), noise: r.Intn(100),
	}
	if r.Intn(3) == 0 {
		v.b = someQuietOfTwo(r)
	}
	v.spoil(r)
	return v
}

func TestLayer6IsTotalAndChangesNothing(t *testing.T) {
	r := rand.New(rand.NewSource(106))
	checkTotal(t, func() l6Arguments { return wildL6Arguments(r) })
}

// The arguments are such that a function could return a part of them as it is: the share of the Box is 0, no less Whole is alike
// with it, and nothing is joined or mixed with it.
func TestLayer6SharesNoMemory(t *testing.T) {
	for i, e := range extremesByHand() {
		for _, c := range [][2]int{{0, 1}, {1, 0}, {1, 1}} {
			var failing []string
			if i >= 16 {
				failing = append(failing, "RestOf")
			}
			checkSharesNothing(t, l6Arguments{
				b: leastByHand(e), g: gameBy(2, 2, allWeights(1), same), f: noFactors(4), k: 1 + i%impl.SumKinds, i: 1 + i, share: c[0], noise: c[1],
			}, failing...)
		}
	}
}

// Each call makes its Box anew, also of the same numbers.
func TestExtremeBoxesAreMadeAnew(t *testing.T) {
	for i := range impl.ExtremeKinds {
		one, _ := impl.ExtremeBox(i)
		kept := copyBox(one)
		for _, row := range one.Rows {
			row[0] = 1000
		}
		one.Rows[0] = nil
		two, ok := impl.ExtremeBox(i)
		wantBox(t, fmt.Sprintf("ExtremeBox(%d), again", i), two, ok, kept)
	}
	for k := range impl.SumKinds {
		one, _ := impl.EqualSumBox(k)
		one.Rows[1][1] = 1000
		two, ok := impl.EqualSumBox(k)
		wantBox(t, fmt.Sprintf("EqualSumBox(%d), again", k), two, ok, sumBoxByHand(k))
	}
}
