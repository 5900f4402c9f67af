package tests

import (
	"math/rand"
	"testing"

	"loop.example/g01141/impl"
)

// callsOfWirings have a Box in each place in turn, beside one that is valid.
func callsOfWirings() map[string]ofBox {
	other := equalSums()
	rules := []impl.Rule{sumRule(), passRule()}
	asks := func(a, b impl.Box, k int) (bool, bool) {
		first, second, n, ok := impl.BestAsks(a, b, k)
		return ok, len(first) == 0 && len(second) == 0 && n == 0
	}
	return map[string]ofBox{
		"WireBoxes, 1st": func(b, _ impl.Box) (bool, bool) {
			c, ok := impl.WireBoxes(b, other, sumRule(), lateRule())
			return ok, isZeroBox(c)
		},
		"WireBoxes, 2nd": func(b, _ impl.Box) (bool, bool) {
			c, ok := impl.WireBoxes(other, b, sumRule(), passRule())
			return ok, isZeroBox(c)
		},
		"SumBoxes, 1st":        func(b, _ impl.Box) (bool, bool) { c, ok := impl.SumBoxes(b, other); return ok, isZeroBox(c) },
		"SumBoxes, 2nd":        func(b, _ impl.Box) (bool, bool) { c, ok := impl.SumBoxes(other, b); return ok, isZeroBox(c) },
		"RepeatSum":            func(b, _ impl.Box) (bool, bool) { c, ok := impl.RepeatSum(b, 1); return ok, isZeroBox(c) },
		"BestAsks, 1st":        func(b, _ impl.Box) (bool, bool) { return asks(b, other, 0) },
		"BestAsks, 2nd, k = 7": func(b, _ impl.Box) (bool, bool) { return asks(other, b, 7) },
		"MixWirings, 1st": func(b, _ impl.Box) (bool, bool) {
			c, ok := impl.MixWirings(b, other, rules, rules)
			return ok, isZeroBox(c)
		},
		"MixWirings, 2nd": func(b, _ impl.Box) (bool, bool) {
			c, ok := impl.MixWirings(other, b, rules[:1], rules[1:])
			return ok, isZeroBox(c)
		},
	}
}

// callsOfTwoWirings have the same Box in both places, which Boxes with a great Whole cannot be.
func callsOfTwoWirings() map[string]ofBox {
	return map[string]ofBox{
		"WireBoxes": func(b, _ impl.Box) (bool, bool) {
			c, ok := impl.WireBoxes(b, b, sumRule(), sumRule())
			return ok, isZeroBox(c)
		},
		"SumBoxes":       func(b, _ impl.Box) (bool, bool) { c, ok := impl.SumBoxes(b, b); return ok, isZeroBox(c) },
		"RepeatSum of 2": func(b, _ impl.Box) (bool, bool) { c, ok := impl.RepeatSum(b, 2); return ok, isZeroBox(c) },
	}
}

func TestNoFunctionOfLayer10TakesAFlawedBox(t *testing.T) {
	checkFlawedBoxesFail(t, callsOfWirings())
	checkFlawedBoxesFail(t, callsOfTwoWirings())
	for _, play := range allLists(4, 2) {
		b := mustPlayBox(t, 2, 2, play, 5)
		wantOfBox(t, callsOfWirings(), b, true)
		wantOfBox(t, callsOfTwoWirings(), b, true)
	}
}

func TestFunctionsOfLayer10TakeTwoQuestionsEachOnly(t *testing.T) {
	for _, size := range allSizes() {
		x, y := size[0], size[1]
		want := x == 2 && y == 2
		for _, b := range []impl.Box{playBoxByHand(x, y, make([]int, x+y), 5), markedBox(x, y, 100)} {
			wantOfBox(t, callsOfWirings(), b, want)
		}
		wantOfBox(t, callsOfTwoWirings(), playBoxByHand(x, y, make([]int, x+y), 5), want)
	}
}

func TestFunctionsOfLayer10TakeLoudBoxes(t *testing.T) {
	for _, b := range loudOfTwo() {
		wantOfBox(t, callsOfWirings(), b, true)
		wantOfBox(t, callsOfTwoWirings(), b, b.Whole <= 31)
	}
}

// A flawed Rule, in either place or in both, is none for any Boxes.
func TestNoWiringsByFlawedRules(t *testing.T) {
	r := rand.New(rand.NewSource(1029))
	for _, bad := range flawedRules() {
		for range 5 {
			a, b, good := boxOfWhole(r, 1+r.Intn(31)), boxOfWhole(r, 1+r.Intn(31)), someRule(r)
			checkWiring(t, a, b, good, good)
			wantNoWiring(t, a, b, bad, good)
			wantNoWiring(t, a, b, good, bad)
			wantNoWiring(t, a, b, bad, bad)
		}
	}
	for _, play := range allLists(4, 2) {
		b := playBoxByHand(2, 2, play, 1)
		wantNoWiring(t, b, b, impl.Rule{}, impl.Rule{})
		wantNoWiring(t, impl.Box{}, b, impl.Rule{}, sumRule())
		wantNoWiring(t, b, impl.Box{}, sumRule(), impl.Rule{})
	}
}
