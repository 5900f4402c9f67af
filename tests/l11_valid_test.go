package tests

import (
	"math"
	"math/rand"
	"slices"
	"testing"

	"loop.example/g01141/impl"
)

// ofTrio calls a function for a Trio, beside other arguments that are valid, and tells whether it was successful and whether all
// other results were zero.
type ofTrio func(trio impl.Trio) (ok bool, zero bool)

func callsOfTrios() map[string]ofTrio {
	other := trioOfByHand([]int{0, 1, 1, 0, 0, 0}, 1)
	return map[string]ofTrio{
		"IsTrio":           func(u impl.Trio) (bool, bool) { is := impl.IsTrio(u); return is, !is },
		"IsQuietTrio":      func(u impl.Trio) (bool, bool) { quiet, ok := impl.IsQuietTrio(u); return ok, !quiet },
		"MixTrios, 1st":    func(u impl.Trio) (bool, bool) { v, ok := impl.MixTrios(u, other); return ok, isZeroTrio(v) },
		"MixTrios, 2nd":    func(u impl.Trio) (bool, bool) { v, ok := impl.MixTrios(other, u); return ok, isZeroTrio(v) },
		"TripleAgreements": func(u impl.Trio) (bool, bool) { list, ok := impl.TripleAgreements(u); return ok, len(list) == 0 },
		"SignSum":          func(u impl.Trio) (bool, bool) { n, ok := impl.SignSum(u); return ok, n == 0 },
		"GroupSum":         func(u impl.Trio) (bool, bool) { n, ok := impl.GroupSum(u); return ok, n == 0 },
		"TurnTrio":         func(u impl.Trio) (bool, bool) { v, ok := impl.TurnTrio(u); return ok, isZeroTrio(v) },
	}
}

// callsOfQuietTrios fail for a Trio that is not quiet, too.
func callsOfQuietTrios() map[string]ofTrio {
	return map[string]ofTrio{
		"PairOf, 0": func(u impl.Trio) (bool, bool) { b, ok := impl.PairOf(u, 0); return ok, isZeroBox(b) },
		"PairOf, 1": func(u impl.Trio) (bool, bool) { b, ok := impl.PairOf(u, 1); return ok, isZeroBox(b) },
		"PairOf, 2": func(u impl.Trio) (bool, bool) { b, ok := impl.PairOf(u, 2); return ok, isZeroBox(b) },
	}
}

func wantOfTrio(t *testing.T, calls map[string]ofTrio, trio impl.Trio, want bool) {
	t.Helper()
	for name, call := range calls {
		if ok, zero := call(trio); ok != want || !ok && !zero {
			t.Fatalf("%s of %v: %v, zero results %v", name, trio, ok, zero)
		}
	}
}

// evenTrioBut has the same number, 5, at all places but in one row.
func evenTrioBut(place int, row []int) impl.Trio {
	t := noiseTrio(5)
	t.Rows[place] = row
	return t
}

// badTrioRows are none of eight numbers of at least 0 with the sum 40, also where a sum wraps around.
func badTrioRows() [][]int {
	rows := [][]int{
		nil, {}, {40}, {20, 20}, {10, 10, 10, 10}, {5, 5, 5, 5, 5, 5, 10}, {5, 5, 5, 5, 5, 5, 5, 5, 0}, {0, 5, 5, 5, 5, 5, 5, 5, 5},
		{4, 4, 4, 4, 4, 4, 4, 4, 8}, {0, 0, 0, 0, 0, 0, 0, 0}, {5, 5, 5, 5, 5, 5, 5, 4}, {5, 5, 5, 5, 5, 5, 5, 6},
		{-40, 80, 0, 0, 0, 0, 0, 0}, {0, 0, 0, 0, 0, 0, 41, -1}, {math.MaxInt, math.MaxInt, 42, 0, 0, 0, 0, 0},
		{0, 0, 0, 0, 0, 42, math.MaxInt, math.MaxInt}, {math.MinInt, math.MinInt, 20, 20, 0, 0, 0, 0}, {math.MinInt, math.MaxInt, 41, 0, 0, 0, 0, 0},
		{1 << 62, 1 << 62, 1 << 62, 1 << 62, 10, 10, 10, 10}, {1 << 62, 1 << 62, 1 << 62, 1<<62 + 40, 0, 0, 0, 0},
		slices.Repeat([]int{1 << 61}, 8), slices.Repeat([]int{1<<61 + 5}, 8), slices.Repeat([]int{-1<<61 + 5}, 8),
	}
	for at := range 8 {
		for _, change := range append(extremeInts(), -6, -1, 1, 36, 40, 1000) {
			row := slices.Repeat([]int{5}, 8)
			row[at] += change
			rows = append(rows, row)
		}
	}
	return rows
}

// flawedTrios are right in all but the Whole, the number of rows, or one row or all.
func flawedTrios() []impl.Trio {
	rows := func(count int) impl.Trio {
		return impl.Trio{Whole: 8, Rows: slices.Repeat([][]int{slices.Repeat([]int{1}, 8)}, count)}
	}
	flawed := []impl.Trio{{}, {Whole: 1}, {Rows: noiseTrio(1).Rows}, {Whole: 8, Rows: [][]int{}}, rows(1), rows(4), rows(7), rows(9), rows(16), rows(64)}
	for _, bad := range badTrioRows() {
		for place := range 8 {
			flawed = append(flawed, evenTrioBut(place, bad))
		}
		flawed = append(flawed, impl.Trio{Whole: 40, Rows: slices.Repeat([][]int{bad}, 8)})
	}
	for _, whole := range append(badWholes(), 1, 39, 41, 80, impl.MaxWhole) {
		even := noiseTrio(5)
		even.Whole = whole
		flawed = append(flawed, even)
	}
	for _, whole := range badWholes() {
		flawed = append(flawed, trioOfByHand(make([]int, 6), whole), sumOfHalves(whole))
	}
	return append(flawed, noiseTrio(0), noiseTrio(-1), noiseTrio(impl.MaxWhole), noiseTrio(126), trioByTimes(markedTrio(), 2))
}

// sumOfHalves has rows of two numbers with a sum.
func sumOfHalves(whole int) impl.Trio {
	row := make([]int, 8)
	row[0], row[7] = whole/2, whole-whole/2
	return impl.Trio{Whole: whole, Rows: slices.Repeat([][]int{row}, 8)}
}

func TestNoFunctionOfLayer11TakesAFlawedTrio(t *testing.T) {
	for _, bad := range flawedTrios() {
		wantOfTrio(t, callsOfTrios(), bad, false)
		wantOfTrio(t, callsOfQuietTrios(), bad, false)
		mixed, ok := impl.MixTrios(bad, bad)
		wantNoTrio(t, "MixTrios of a flawed Trio", mixed, ok)
	}
}

func TestFunctionsOfLayer11TakeTriosOfAllWholes(t *testing.T) {
	r := rand.New(rand.NewSource(1116))
	for whole := 1; whole < impl.MaxWhole; whole++ {
		wantOfTrio(t, callsOfTrios(), trioOfWhole(r, whole), true)
		quiet := trioOfByHand(someBits(r, 6), whole)
		wantOfTrio(t, callsOfTrios(), quiet, true)
		wantOfTrio(t, callsOfQuietTrios(), quiet, true)
		wantOfTrio(t, callsOfQuietTrios(), sumOfHalves(whole), true)
	}
	for _, trio := range []impl.Trio{markedTrio(), noiseTrio(125), sumOfHalves(impl.MaxWhole), trioOfByHand(make([]int, 6), impl.MaxWhole)} {
		calls := callsOfTrios()
		delete(calls, "MixTrios, 1st")
		delete(calls, "MixTrios, 2nd")
		wantOfTrio(t, calls, trio, true)
	}
	wantOfTrio(t, callsOfQuietTrios(), markedTrio(), false)
	wantOfTrio(t, callsOfQuietTrios(), noiseTrio(125), true)
}

// Each row of small numbers is one of a Trio exactly if its sum is the Whole and none of its numbers is less than 0.
func TestSmallRowsOfTrios(t *testing.T) {
	for _, list := range allLists(8, 4) {
		for i := range list {
			list[i]--
		}
		if sum := sumOf(list); sum < 1 || sum > 4 {
			continue
		}
		trio := trioOfByHand(make([]int, 6), 2)
		trio.Rows[4] = list
		if impl.IsTrio(trio) != (sumOf(list) == 2 && slices.Min(list) >= 0) {
			t.Fatalf("IsTrio(%v) = %v", trio, impl.IsTrio(trio))
		}
	}
}

func callsOfAddThird() map[string]ofBox {
	return map[string]ofBox{
		"AddThird": func(b, _ impl.Box) (bool, bool) {
			trio, ok := impl.AddThird(b, []int{0, 1}, 1)
			return ok, isZeroTrio(trio)
		},
		"AddThird who knows nothing": func(b, _ impl.Box) (bool, bool) {
			trio, ok := impl.AddThird(b, []int{2, 2}, 4)
			return ok, isZeroTrio(trio)
		},
	}
}

func TestAddThirdToFlawedBoxes(t *testing.T) {
	checkFlawedBoxesFail(t, callsOfAddThird())
	for _, b := range loudOfTwo() {
		wantOfBox(t, callsOfAddThird(), b, true)
	}
}

func TestAddThirdToBoxesOfTwoQuestionsOnly(t *testing.T) {
	for _, size := range allSizes() {
		x, y := size[0], size[1]
		for _, b := range []impl.Box{playBoxByHand(x, y, make([]int, x+y), 5), markedBox(x, y, 100)} {
			wantOfBox(t, callsOfAddThird(), b, x == 2 && y == 2)
		}
	}
}
