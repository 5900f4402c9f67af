package tests

import (
	"fmt"
	"math/rand"
	"slices"
	"testing"

	"loop.example/g01141/impl"
)

func wantMixed(t *testing.T, a, b impl.Box, firsts, seconds []impl.Rule, want impl.Box) {
	t.Helper()
	mixture, ok := impl.MixWirings(a, b, firsts, seconds)
	wantBox(t, fmt.Sprintf("MixWirings(%v, %v, %v, %v)", a, b, firsts, seconds), mixture, ok, want)
}

func wantNotMixed(t *testing.T, a, b impl.Box, firsts, seconds []impl.Rule) {
	t.Helper()
	mixture, ok := impl.MixWirings(a, b, firsts, seconds)
	wantNoBox(t, fmt.Sprintf("MixWirings(%v, %v, %d Rules, %d Rules)", a, b, len(firsts), len(seconds)), mixture, ok)
}

// mixedByHand has the sums of all wirings. It need not be a Box, as its Whole may be too great.
func mixedByHand(a, b impl.Box, firsts, seconds []impl.Rule) impl.Box {
	mixture := wiringByHand(a, b, firsts[0], seconds[0])
	for i := 1; i < len(firsts); i++ {
		mixture = joined(mixture, wiringByHand(a, b, firsts[i], seconds[i]))
	}
	return mixture
}

// mixedByFunctions makes MixBoxes of all wirings in order.
func mixedByFunctions(t *testing.T, a, b impl.Box, firsts, seconds []impl.Rule) impl.Box {
	t.Helper()
	mixture := mustWire(t, a, b, firsts[0], seconds[0])
	for i := 1; i < len(firsts); i++ {
		mixture = mustMix(t, mixture, mustWire(t, a, b, firsts[i], seconds[i]))
	}
	return mixture
}

// checkMixed compares the mixture with the definitions, and tells whether there is one.
func checkMixed(t *testing.T, a, b impl.Box, firsts, seconds []impl.Rule) bool {
	t.Helper()
	if len(firsts)*a.Whole*b.Whole > impl.MaxWhole {
		wantNotMixed(t, a, b, firsts, seconds)
		return false
	}
	wantMixed(t, a, b, firsts, seconds, mixedByHand(a, b, firsts, seconds))
	wantMixed(t, a, b, firsts, seconds, mixedByFunctions(t, a, b, firsts, seconds))
	return true
}

func TestMixedWiringsByHand(t *testing.T) {
	two, even, odd := []int{2, 2, 2, 2}, []int{4, 0, 0, 4}, []int{0, 4, 4, 0}
	sum, other := sumRule(), otherAnswers(sumRule())
	wantMixed(t, equalSums(), equalSums(), []impl.Rule{sum, sum}, []impl.Rule{sum, other}, box(2, 2, 8, two, two, two, two))
	wantMixed(t, equalSums(), equalSums(), []impl.Rule{sum, other}, []impl.Rule{sum, other}, box(2, 2, 8, even, even, even, even))
	wantMixed(t, equalSums(), equalSums(), []impl.Rule{sum, other}, []impl.Rule{other, sum}, box(2, 2, 8, odd, odd, odd, odd))
	wantMixed(t, equalSums(), equalSums(), []impl.Rule{passRule(), lateRule()}, []impl.Rule{passRule(), lateRule()}, boxByTimes(equalSums(), 4))
	// Of both Boxes, the second one is heard two times as often.
	a, b := playBoxByHand(2, 2, []int{0, 0, 1, 1}, 3), playBoxByHand(2, 2, []int{1, 0, 1, 0}, 5)
	rules := []impl.Rule{passRule(), lateRule(), lateRule()}
	rows := [][]int{{0, 15, 0, 30}, {0, 15, 30, 0}, {0, 45, 0, 0}, {30, 15, 0, 0}}
	wantMixed(t, a, b, rules, rules, box(2, 2, 45, rows...))
}

func TestMixturesOfOneWiring(t *testing.T) {
	r := rand.New(rand.NewSource(1023))
	for range 500 {
		a, b := boxOfWhole(r, 1+r.Intn(40)), boxOfWhole(r, 1+r.Intn(40))
		first, second := someRule(r), someRule(r)
		if checkMixed(t, a, b, []impl.Rule{first}, []impl.Rule{second}) {
			wantMixed(t, a, b, []impl.Rule{first}, []impl.Rule{second}, mustWire(t, a, b, first, second))
		}
	}
}

func TestMixturesOfAnyWirings(t *testing.T) {
	r := rand.New(rand.NewSource(1024))
	some, none := 0, 0
	for range 1500 {
		a, b := boxOfWhole(r, 1+r.Intn(20)), boxOfWhole(r, 1+r.Intn(20))
		if r.Intn(3) == 0 {
			a, b = quietOfAtMost(r, 20), quietOfAtMost(r, 20)
		}
		count := 2 + r.Intn([]int{2, 10, 50}[r.Intn(3)])
		if checkMixed(t, a, b, someRules(r, count), someRules(r, count)) {
			some++
		} else {
			none++
		}
	}
	if some < 500 || none < 300 {
		t.Errorf("%d mixtures, and %d are none", some, none)
	}
}

// The last wiring, or one on the way, is just none too many, or too many.
func TestNumbersOfMixedWirings(t *testing.T) {
	r := rand.New(rand.NewSource(1025))
	for _, wholes := range [][2]int{{1, 1}, {1, 2}, {2, 2}, {3, 3}, {1, 10}, {10, 10}, {100, 5}, {5, 100}, {167, 2}, {1, 334}, {1, 500}, {501, 1}, {1, 1000}, {20, 50}} {
		a, b := boxOfWhole(r, wholes[0]), boxOfWhole(r, wholes[1])
		most := impl.MaxWhole / (wholes[0] * wholes[1])
		firsts, seconds := someRules(r, most+1), someRules(r, most+1)
		if !checkMixed(t, a, b, firsts[:most], seconds[:most]) {
			t.Errorf("%d wirings with the Wholes %v are too many", most, wholes)
		}
		wantNotMixed(t, a, b, firsts, seconds)
		wantNotMixed(t, a, b, slices.Repeat(firsts, 5), slices.Repeat(seconds, 5))
	}
	wantNotMixed(t, boxOfWhole(r, 1), boxOfWhole(r, 1), slices.Repeat([]impl.Rule{sumRule()}, 20000), slices.Repeat([]impl.Rule{sumRule()}, 20000))
	wantNotMixed(t, boxOfWhole(r, 7), boxOfWhole(r, 143), []impl.Rule{sumRule()}, []impl.Rule{sumRule()})
	wantNotMixed(t, boxOfWhole(r, 1000), boxOfWhole(r, 1000), someRules(r, 3), someRules(r, 3))
}

func TestMixturesStayQuietAndLocal(t *testing.T) {
	r := rand.New(rand.NewSource(1026))
	for range 500 {
		count := 1 + r.Intn(4)
		firsts, seconds := someRules(r, count), someRules(r, count)
		mixture, ok := impl.MixWirings(quietOfAtMost(r, 15), quietOfAtMost(r, 15), firsts, seconds)
		quiet, is := impl.IsQuiet(mixture)
		wantReport(t, fmt.Sprintf("IsQuiet(%v)", mixture), quiet, ok && is, true)
		mixture, ok = impl.MixWirings(localOfAtMost(r, 15), localOfAtMost(r, 15), firsts, seconds)
		local, is := impl.IsLocal(mixture)
		wantReport(t, fmt.Sprintf("IsLocal(%v)", mixture), local, ok && is, true)
	}
}

func TestNoMixturesOfOtherLists(t *testing.T) {
	r := rand.New(rand.NewSource(1027))
	a, b := equalSums(), playBoxByHand(2, 2, []int{0, 1, 1, 0}, 1)
	for first := range 6 {
		for second := range 6 {
			firsts, seconds := someRules(r, first), someRules(r, second)
			if first == second && first > 0 {
				checkMixed(t, a, b, firsts, seconds)
				continue
			}
			wantNotMixed(t, a, b, firsts, seconds)
		}
	}
	wantNotMixed(t, a, b, nil, nil)
	wantNotMixed(t, a, b, []impl.Rule{}, []impl.Rule{})
	wantNotMixed(t, a, b, nil, []impl.Rule{})
	wantNotMixed(t, a, b, nil, []impl.Rule{sumRule()})
	wantNotMixed(t, a, b, []impl.Rule{sumRule()}, nil)
	wantNotMixed(t, impl.Box{}, impl.Box{}, nil, nil)
	wantNotMixed(t, impl.Box{}, impl.Box{}, []impl.Rule{sumRule()}, []impl.Rule{sumRule()})
}

// One flawed Rule is enough, in each place of either list, also behind wirings that are too many.
func TestNoMixturesWithFlawedRules(t *testing.T) {
	r := rand.New(rand.NewSource(1028))
	a, b := equalSums(), playBoxByHand(2, 2, []int{0, 1, 1, 0}, 1)
	for _, bad := range flawedRules() {
		for count := 1; count <= 4; count++ {
			place := r.Intn(count)
			firsts, seconds := someRules(r, count), someRules(r, count)
			checkMixed(t, a, b, firsts, seconds)
			flawed := slices.Clone(firsts)
			flawed[place] = bad
			wantNotMixed(t, a, b, flawed, seconds)
			wantNotMixed(t, a, b, seconds, flawed)
			wantNotMixed(t, a, b, flawed, flawed)
		}
	}
	for place := range 502 {
		firsts, seconds := slices.Repeat([]impl.Rule{sumRule()}, 502), slices.Repeat([]impl.Rule{passRule()}, 502)
		firsts[place] = impl.Rule{}
		for _, count := range []int{place + 1, 500, 502} {
			if count > place {
				wantNotMixed(t, a, b, firsts[:count], seconds[:count])
				wantNotMixed(t, a, b, seconds[:count], firsts[:count])
			}
		}
	}
}
