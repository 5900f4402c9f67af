package tests

import (
	"fmt"
	"math/rand"
	"slices"
	"testing"

	"loop.example/g01141/impl"
)

// A Rule has so many numbers: those of First, of both lists of Ask and of both lists of Say.
const ruleNumbers = 14

func ruleOf(numbers []int) impl.Rule {
	part := func(from, to int) []int { return slices.Clone(numbers[from:to]) }
	return impl.Rule{First: part(0, 2), Ask: [][]int{part(2, 4), part(4, 6)}, Say: [][]int{part(6, 10), part(10, 14)}}
}

func numbersOfRule(r impl.Rule) []int {
	return slices.Concat(r.First, slices.Concat(r.Ask...), slices.Concat(r.Say...))
}

func allRules() []impl.Rule {
	var rules []impl.Rule
	for _, numbers := range allLists(ruleNumbers, 2) {
		rules = append(rules, ruleOf(numbers))
	}
	return rules
}

// ruleByHand asks the first Box the own question, and answers in one way to both questions.
func ruleByHand(asks []int, say func(a, c int) int) impl.Rule {
	r := impl.Rule{First: []int{0, 1}}
	for x := range 2 {
		r.Ask = append(r.Ask, []int{asks[2*x], asks[2*x+1]})
		r.Say = append(r.Say, []int{say(0, 0), say(0, 1), say(1, 0), say(1, 1)})
	}
	return r
}

func ownQuestions() []int { return []int{0, 0, 1, 1} }

func passRule() impl.Rule { return ruleByHand(ownQuestions(), func(a, _ int) int { return a }) }
func lateRule() impl.Rule { return ruleByHand(ownQuestions(), func(_, c int) int { return c }) }
func sumRule() impl.Rule  { return sumRuleOf(ownQuestions()) }

// sumRuleOf is the sum rule by an ask list.
func sumRuleOf(asks []int) impl.Rule {
	return ruleByHand(asks, func(a, c int) int {
		if a == c {
			return 0
		}
		return 1
	})
}

func otherAnswers(r impl.Rule) impl.Rule {
	r = copyRule(r)
	for _, say := range r.Say {
		for place, n := range say {
			say[place] = 1 - n
		}
	}
	return r
}

// someRule is any Rule, one that asks the second Box the same question whatever the first one answers, or one with a name.
func someRule(r *rand.Rand) impl.Rule {
	rule := ruleOf(someBits(r, ruleNumbers))
	switch r.Intn(6) {
	case 0:
		rule.Ask[0][1], rule.Ask[1][1] = rule.Ask[0][0], rule.Ask[1][0]
	case 1:
		rule.Ask[0][1], rule.Ask[1][1] = 1-rule.Ask[0][0], 1-rule.Ask[1][0]
	case 2:
		return []impl.Rule{passRule(), lateRule(), sumRule()}[r.Intn(3)]
	case 3:
		return sumRuleOf(someBits(r, 4))
	}
	return rule
}

func someRules(r *rand.Rand, count int) []impl.Rule {
	var rules []impl.Rule
	for range count {
		rules = append(rules, someRule(r))
	}
	return rules
}

func copyRule(r impl.Rule) impl.Rule {
	return impl.Rule{First: slices.Clone(r.First), Ask: copyRows(r.Ask), Say: copyRows(r.Say)}
}

func sameRule(r, s impl.Rule) bool {
	return slices.Equal(r.First, s.First) && sameRows(r.Ask, s.Ask) && sameRows(r.Say, s.Say)
}

func isZeroRule(r impl.Rule) bool { return len(r.First) == 0 && len(r.Ask) == 0 && len(r.Say) == 0 }

func wantRule(t *testing.T, what string, got impl.Rule, ok bool, want impl.Rule) {
	t.Helper()
	if !ok || !sameRule(got, want) || !impl.IsRule(got) {
		t.Fatalf("%s = %v, %v; want %v, true", what, got, ok, want)
	}
}

func wantNoRule(t *testing.T, what string, got impl.Rule, ok bool) {
	t.Helper()
	if ok || !isZeroRule(got) {
		t.Fatalf("%s = %v, %v; want no Rule, false", what, got, ok)
	}
}

// playedByHand is the answer of a player to x, for Boxes that answer as two lists tell.
func playedByHand(r impl.Rule, x int, one, two []int) int {
	a := one[r.First[x]]
	c := two[r.Ask[x][a]]
	return r.Say[x][2*a+c]
}

// wiringByHand goes over all answers of both Boxes. It need not be a Box, as its Whole may be too great.
func wiringByHand(a, b impl.Box, first, second impl.Rule) impl.Box {
	wiring := boxBy(2, 2, a.Whole*b.Whole, func(int, int, int, int) int { return 0 })
	ways := allLists(4, 2)
	for x := range 2 {
		for y := range 2 {
			for _, way := range ways {
				n := numberAt(a, first.First[x], second.First[y], way[0], way[1])
				n *= numberAt(b, first.Ask[x][way[0]], second.Ask[y][way[1]], way[2], way[3])
				said, other := first.Say[x][2*way[0]+way[2]], second.Say[y][2*way[1]+way[3]]
				wiring.Rows[2*x+y][2*said+other] += n
			}
		}
	}
	return wiring
}

func wantWiring(t *testing.T, a, b impl.Box, first, second impl.Rule, want impl.Box) {
	t.Helper()
	wiring, ok := impl.WireBoxes(a, b, first, second)
	wantBox(t, fmt.Sprintf("WireBoxes(%v, %v, %v, %v)", a, b, first, second), wiring, ok, want)
}

func wantNoWiring(t *testing.T, a, b impl.Box, first, second impl.Rule) {
	t.Helper()
	wiring, ok := impl.WireBoxes(a, b, first, second)
	wantNoBox(t, fmt.Sprintf("WireBoxes(%v, %v, %v, %v)", a, b, first, second), wiring, ok)
}

// checkWiring compares the wiring with the definition, and tells whether there is one.
func checkWiring(t *testing.T, a, b impl.Box, first, second impl.Rule) bool {
	t.Helper()
	if a.Whole*b.Whole > impl.MaxWhole {
		wantNoWiring(t, a, b, first, second)
		return false
	}
	wantWiring(t, a, b, first, second, wiringByHand(a, b, first, second))
	return true
}

func mustWire(t *testing.T, a, b impl.Box, first, second impl.Rule) impl.Box {
	t.Helper()
	wiring, ok := impl.WireBoxes(a, b, first, second)
	if !ok {
		t.Fatalf("WireBoxes(%v, %v, %v, %v) fails", a, b, first, second)
	}
	return wiring
}

func mustAgreements(t *testing.T, b impl.Box) []int {
	t.Helper()
	agreements, ok := impl.AgreementsOf(b)
	if !ok {
		t.Fatalf("AgreementsOf(%v) fails", b)
	}
	return agreements
}

// boxOfWhole has any rows with a Whole.
func boxOfWhole(r *rand.Rand, whole int) impl.Box {
	return box(2, 2, whole, someRow(r, whole), someRow(r, whole), someRow(r, whole), someRow(r, whole))
}

// quietOfAtMost is quiet, and may be an extreme Box.
func quietOfAtMost(r *rand.Rand, most int) impl.Box {
	for range 10 {
		if b := leastByHand(someQuietOfTwo(r)); b.Whole <= most {
			return b
		}
	}
	return anyQuietBox(r, 2, 2, 1+r.Intn(most))
}

func localOfAtMost(r *rand.Rand, most int) impl.Box {
	return mixtureByHand(2, 2, someShares(r, 2, 2, 1+r.Intn(most)))
}

// wholesUpTo has all pairs of Wholes whose product is most.
func wholesUpTo(most int) [][2]int {
	var wholes [][2]int
	for one := 1; one <= impl.MaxWhole; one++ {
		if most%one == 0 && most/one <= impl.MaxWhole {
			wholes = append(wholes, [2]int{one, most / one})
		}
	}
	return wholes
}

// flawedRules are right in all but one or two lists, which are too short, too long or missing, or have another number in one place.
func flawedRules() []impl.Rule {
	good := ruleOf([]int{0, 1, 0, 1, 1, 0, 0, 1, 1, 0, 1, 0, 1, 1})
	flawed := []impl.Rule{{}, {First: good.First}, {Ask: good.Ask}, {Say: good.Say}}
	change := func(change func(r *impl.Rule)) {
		bad := copyRule(good)
		change(&bad)
		flawed = append(flawed, bad)
	}
	for _, list := range badBits(2) {
		change(func(r *impl.Rule) { r.First = list })
		change(func(r *impl.Rule) { r.Ask[0] = list })
		change(func(r *impl.Rule) { r.Ask[1] = list })
	}
	for _, list := range badBits(4) {
		change(func(r *impl.Rule) { r.Say[0] = list })
		change(func(r *impl.Rule) { r.Say[1] = list })
	}
	for _, count := range []int{0, 1, 3, 4, 100} {
		change(func(r *impl.Rule) { r.Ask = slices.Repeat([][]int{{0, 1}}, count) })
		change(func(r *impl.Rule) { r.Say = slices.Repeat([][]int{{0, 1, 1, 0}}, count) })
		change(func(r *impl.Rule) { r.Ask, r.Say = r.Ask[:min(count, 1)], r.Say[:min(count, 1)] })
	}
	change(func(r *impl.Rule) { r.First = nil })
	change(func(r *impl.Rule) { r.Ask = nil })
	change(func(r *impl.Rule) { r.Say = nil })
	change(func(r *impl.Rule) { r.Ask, r.Say = r.Say, r.Ask })
	change(func(r *impl.Rule) { r.Ask = [][]int{nil, nil} })
	change(func(r *impl.Rule) { r.Say = [][]int{nil, nil} })
	change(func(r *impl.Rule) { r.Ask = [][]int{{0, 1, 0}, {0}} })
	change(func(r *impl.Rule) { r.Say = [][]int{{0, 1, 0, 1, 1}, {0, 1, 0}} })
	return flawed
}
