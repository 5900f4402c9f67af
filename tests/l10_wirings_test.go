package tests

import (
	"fmt"
	"math/rand"
	"slices"
	"testing"

	"loop.example/g01141/impl"
)

func TestWiringsByHand(t *testing.T) {
	even, odd := []int{2, 0, 0, 2}, []int{0, 2, 2, 0}
	wantWiring(t, equalSums(), equalSums(), passRule(), passRule(), box(2, 2, 4, even, even, even, odd))
	wantWiring(t, equalSums(), equalSums(), sumRule(), sumRule(), box(2, 2, 4, even, even, even, even))
	wantWiring(t, equalSums(), equalSums(), sumRule(), otherAnswers(sumRule()), box(2, 2, 4, odd, odd, odd, odd))
	// The first player hands on what the first Box answers, the second one what the second Box answers.
	all := []int{1, 1, 1, 1}
	wantWiring(t, equalSums(), equalSums(), passRule(), lateRule(), box(2, 2, 4, all, all, all, all))
	// Both players ask the second Box what the first one answers, and say what it answers.
	asking := impl.Rule{First: []int{0, 1}, Ask: [][]int{{0, 1}, {0, 1}}, Say: [][]int{{0, 1, 0, 1}, {0, 1, 0, 1}}}
	wantWiring(t, equalSums(), equalSums(), asking, asking, box(2, 2, 4, []int{1, 1, 1, 1}, []int{1, 1, 1, 1}, []int{1, 1, 1, 1}, even))
	zero, one := playBoxByHand(2, 2, []int{0, 0, 0, 0}, 3), playBoxByHand(2, 2, []int{1, 1, 1, 1}, 3)
	three := []int{3, 0, 0, 3}
	wantWiring(t, zero, equalSums(), asking, asking, box(2, 2, 6, three, three, three, three))
	wantWiring(t, one, equalSums(), asking, asking, box(2, 2, 6, []int{0, 3, 3, 0}, []int{0, 3, 3, 0}, []int{0, 3, 3, 0}, []int{0, 3, 3, 0}))
	// Rows of other numbers, none of which are the same.
	a := box(2, 2, 10, []int{1, 2, 3, 4}, []int{10, 0, 0, 0}, []int{10, 0, 0, 0}, []int{10, 0, 0, 0})
	b := box(2, 2, 100, []int{10, 20, 30, 40}, []int{100, 0, 0, 0}, []int{100, 0, 0, 0}, []int{100, 0, 0, 0})
	first := impl.Rule{First: []int{0, 1}, Ask: [][]int{{0, 0}, {1, 1}}, Say: [][]int{{0, 0, 0, 1}, {0, 0, 1, 1}}}
	second := impl.Rule{First: []int{0, 1}, Ask: [][]int{{0, 0}, {1, 1}}, Say: [][]int{{1, 1, 0, 1}, {0, 0, 1, 1}}}
	// Of 1000, the first player says 1 for 7 times 70 and the second one 0 for 6 times 40; for 4 times 30, both do.
	wantWiring(t, a, b, first, second, box(2, 2, 1000, []int{120, 390, 120, 370}, []int{1000, 0, 0, 0}, []int{0, 1000, 0, 0}, []int{1000, 0, 0, 0}))
}

// Each number of each row of both Boxes is where it belongs, and nowhere else.
func TestEachNumberOfWirings(t *testing.T) {
	r := rand.New(rand.NewSource(1001))
	for _, a := range allBoxes(2, 2, 1) {
		for range 20 {
			checkWiring(t, a, boxOfWhole(r, 1), someRule(r), someRule(r))
			checkWiring(t, boxOfWhole(r, 1), a, someRule(r), someRule(r))
		}
	}
}

func TestWiringsByAllRules(t *testing.T) {
	r := rand.New(rand.NewSource(1002))
	for _, rule := range allRules() {
		a, b := boxOfWhole(r, 1+r.Intn(31)), boxOfWhole(r, 1+r.Intn(31))
		checkWiring(t, a, b, rule, someRule(r))
		checkWiring(t, a, b, someRule(r), rule)
		checkWiring(t, a, b, rule, rule)
	}
}

func TestWiringsOfAnyBoxes(t *testing.T) {
	r := rand.New(rand.NewSource(1003))
	some, none := 0, 0
	for range 3000 {
		boxes := []impl.Box{someBox(r, 2, 2), someQuietOfTwo(r), quietOfAtMost(r, 31), boxOfWhole(r, 1+r.Intn(31)), quietOfAtMost(r, 5)}
		if checkWiring(t, boxes[r.Intn(5)], boxes[r.Intn(5)], someRule(r), someRule(r)) {
			some++
		} else {
			none++
		}
	}
	if some < 1000 || none < 500 {
		t.Errorf("%d wirings, and %d are none", some, none)
	}
	for _, a := range loudOfTwo() {
		for _, b := range loudOfTwo() {
			checkWiring(t, a, b, someRule(r), someRule(r))
		}
	}
}

// The product of both Wholes is MaxWhole, a little less, or a little greater, or as great as it can be.
func TestWholesOfWirings(t *testing.T) {
	r := rand.New(rand.NewSource(1004))
	counts := map[bool]int{}
	for _, most := range []int{1, 2, 990, 999, impl.MaxWhole, impl.MaxWhole + 1, impl.MaxWhole + 2, 1008, 2000, 500000, impl.MaxWhole * impl.MaxWhole} {
		for _, wholes := range wholesUpTo(most) {
			a, b := boxOfWhole(r, wholes[0]), boxOfWhole(r, wholes[1])
			for _, rule := range []impl.Rule{passRule(), lateRule(), sumRule(), someRule(r)} {
				counts[checkWiring(t, a, b, rule, someRule(r))]++
				if checkWiring(t, a, b, someRule(r), rule) != (most <= impl.MaxWhole) {
					t.Errorf("a wiring with the Whole %d", most)
				}
			}
		}
	}
	if counts[true] < 100 || counts[false] < 50 {
		t.Errorf("%v wirings", counts)
	}
}

func TestWiringsOfQuietBoxesAreQuiet(t *testing.T) {
	r := rand.New(rand.NewSource(1005))
	for range 3000 {
		a, b := quietOfAtMost(r, 31), quietOfAtMost(r, 31)
		first, second := someRule(r), someRule(r)
		wiring := mustWire(t, a, b, first, second)
		quiet, ok := impl.IsQuiet(wiring)
		wantReport(t, fmt.Sprintf("IsQuiet of the wiring of %v and %v by %v and %v", a, b, first, second), quiet, ok, true)
	}
	for _, a := range extremesByHand() {
		for _, b := range extremesByHand() {
			quiet, ok := impl.IsQuiet(mustWire(t, a, b, someRule(r), someRule(r)))
			wantReport(t, fmt.Sprintf("IsQuiet of a wiring of %v and %v", a, b), quiet, ok, true)
		}
	}
}

// A Box that is not quiet may be heard through.
func TestWiringsOfLoudBoxes(t *testing.T) {
	for _, loud := range loudOfTwo() {
		one := playBoxByHand(2, 2, []int{0, 1, 0, 1}, 3)
		for _, wiring := range []impl.Box{mustWire(t, loud, one, passRule(), passRule()), mustWire(t, one, loud, lateRule(), lateRule())} {
			quiet, ok := impl.IsQuiet(wiring)
			wantReport(t, fmt.Sprintf("IsQuiet(%v)", wiring), quiet, ok, false)
		}
	}
}

func TestWiringsOfMixturesAreMixtures(t *testing.T) {
	r := rand.New(rand.NewSource(1006))
	for range 2000 {
		a, b := localOfAtMost(r, 31), localOfAtMost(r, 31)
		first, second := someRule(r), someRule(r)
		local, ok := impl.IsLocal(mustWire(t, a, b, first, second))
		wantReport(t, fmt.Sprintf("IsLocal of the wiring of %v and %v by %v and %v", a, b, first, second), local, ok, true)
	}
	// One that is not local stays so if it is passed on.
	local, ok := impl.IsLocal(mustWire(t, equalSums(), localOfAtMost(r, 31), passRule(), passRule()))
	wantReport(t, "IsLocal of equal sums that are passed on", local, ok, false)
}

// The wiring of a mixture is the mixture of the wirings, in either place.
func TestWiringsOfMixedBoxes(t *testing.T) {
	r := rand.New(rand.NewSource(1007))
	for range 500 {
		a, b, c := boxOfWhole(r, 1+r.Intn(15)), boxOfWhole(r, 1+r.Intn(15)), boxOfWhole(r, 1+r.Intn(31))
		first, second := someRule(r), someRule(r)
		mix := mustMix(t, a, b)
		wantWiring(t, mix, c, first, second, mustMix(t, mustWire(t, a, c, first, second), mustWire(t, b, c, first, second)))
		wantWiring(t, c, mix, first, second, mustMix(t, mustWire(t, c, a, first, second), mustWire(t, c, b, first, second)))
	}
}

func mustThrough(t *testing.T, r impl.Rule, one, two []int) []int {
	t.Helper()
	answers, ok := impl.PlayThrough(r, one, two)
	if !ok {
		t.Fatalf("PlayThrough(%v, %v, %v) fails", r, one, two)
	}
	return answers
}

// checkPlays compares the wiring of two PlayBoxes with the PlayBox of the answers of both players.
func checkPlays(t *testing.T, one, two []int, wholes [2]int, first, second impl.Rule) {
	t.Helper()
	a, b := mustPlayBox(t, 2, 2, one, wholes[0]), mustPlayBox(t, 2, 2, two, wholes[1])
	play := slices.Concat(mustThrough(t, first, one[:2], two[:2]), mustThrough(t, second, one[2:], two[2:]))
	wantWiring(t, a, b, first, second, mustPlayBox(t, 2, 2, play, wholes[0]*wholes[1]))
}

func TestWiringsOfPlays(t *testing.T) {
	r := rand.New(rand.NewSource(1008))
	wholes := [][2]int{{1, 1}, {1, impl.MaxWhole}, {impl.MaxWhole, 1}, {25, 40}, {3, 7}}
	for _, one := range allLists(4, 2) {
		for _, two := range allLists(4, 2) {
			for range 40 {
				checkPlays(t, one, two, wholes[r.Intn(len(wholes))], someRule(r), someRule(r))
			}
		}
	}
	for _, rule := range allRules() {
		checkPlays(t, someBits(r, 4), someBits(r, 4), [2]int{1, 2}, rule, someRule(r))
		checkPlays(t, someBits(r, 4), someBits(r, 4), [2]int{2, 1}, someRule(r), rule)
	}
}

// Both Boxes are as they were, but for their Whole, whatever the other one is.
func TestWiringsByPassAndLateRules(t *testing.T) {
	r := rand.New(rand.NewSource(1009))
	for range 1000 {
		a, b := boxOfWhole(r, 1+r.Intn(31)), boxOfWhole(r, 1+r.Intn(31))
		if r.Intn(2) == 0 {
			a, b = quietOfAtMost(r, 31), quietOfAtMost(r, 31)
		}
		wantWiring(t, a, b, passRule(), passRule(), boxByTimes(a, b.Whole))
		wantWiring(t, a, b, lateRule(), lateRule(), boxByTimes(b, a.Whole))
		for name, whole := range map[int]impl.Box{impl.RulePass: a, impl.RuleLate: b} {
			rule, _ := impl.NamedRule(name)
			alike, ok := impl.AreAlike(mustWire(t, a, b, rule, rule), whole)
			wantReport(t, fmt.Sprintf("AreAlike for %v and %v by the rule %d", a, b, name), alike, ok, true)
		}
	}
}

func TestWiringsByFlippedRules(t *testing.T) {
	r := rand.New(rand.NewSource(1010))
	for range 1000 {
		a, b := boxOfWhole(r, 1+r.Intn(31)), boxOfWhole(r, 1+r.Intn(31))
		first, second := someRule(r), someRule(r)
		wiring := mustWire(t, a, b, first, second)
		for _, flips := range [][]int{{1, 1, 0, 0}, {0, 0, 1, 1}, {1, 1, 1, 1}} {
			one, two := first, second
			if flips[0] == 1 {
				one = mustFlipRule(t, first)
			}
			if flips[2] == 1 {
				two = mustFlipRule(t, second)
			}
			want, ok := impl.FlipAnswers(wiring, flips)
			wantBox(t, "FlipAnswers of a wiring", mustWire(t, a, b, one, two), ok, want)
		}
		wantWiring(t, a, b, mustFlipRule(t, mustFlipRule(t, first)), mustFlipRule(t, mustFlipRule(t, second)), wiring)
	}
}

// With the players exchanged in both Boxes, and the Rules exchanged, they are so in the wiring.
func TestWiringsOfSwappedPlayers(t *testing.T) {
	r := rand.New(rand.NewSource(1011))
	for range 500 {
		a, b := boxOfWhole(r, 1+r.Intn(31)), boxOfWhole(r, 1+r.Intn(31))
		first, second := someRule(r), someRule(r)
		one, _ := impl.SwapPlayers(a)
		two, _ := impl.SwapPlayers(b)
		want, ok := impl.SwapPlayers(mustWire(t, a, b, first, second))
		wantBox(t, "SwapPlayers of a wiring", mustWire(t, one, two, second, first), ok, want)
	}
}

// Where the second Box is asked the same whatever the first one answers, and what it answers is said, it is asked again.
func TestWiringsThatDoNotLookAtTheFirstAnswer(t *testing.T) {
	r := rand.New(rand.NewSource(1012))
	for _, asks := range allLists(4, 2) {
		a, b := boxOfWhole(r, 7), boxOfWhole(r, 11)
		first := impl.Rule{First: someBits(r, 2), Ask: [][]int{{asks[0], asks[0]}, {asks[1], asks[1]}}, Say: lateRule().Say}
		second := impl.Rule{First: someBits(r, 2), Ask: [][]int{{asks[2], asks[2]}, {asks[3], asks[3]}}, Say: lateRule().Say}
		asked, ok := impl.AskAgain(b, asks[:2], asks[2:])
		wantBox(t, "the second Box, asked again", mustWire(t, a, b, first, second), ok, boxByTimes(asked, 7))
	}
}
