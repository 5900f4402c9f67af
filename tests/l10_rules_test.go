package tests

import (
	"fmt"
	"slices"
	"testing"

	"loop.example/g01141/impl"
)

func TestNamesOfRulesAndRepeats(t *testing.T) {
	if impl.MaxRepeats != 9 || impl.RulePass != 1 || impl.RuleLate != 2 || impl.RuleSum != 3 {
		t.Errorf("%d repeats, and the names %d, %d and %d", impl.MaxRepeats, impl.RulePass, impl.RuleLate, impl.RuleSum)
	}
}

func wantNamed(t *testing.T, name int, want impl.Rule) {
	t.Helper()
	r, ok := impl.NamedRule(name)
	wantRule(t, fmt.Sprintf("NamedRule(%d)", name), r, ok, want)
}

func wantSumRule(t *testing.T, asks []int, want impl.Rule) {
	t.Helper()
	r, ok := impl.SumRuleBy(asks)
	wantRule(t, fmt.Sprintf("SumRuleBy(%v)", asks), r, ok, want)
}

func mustFlipRule(t *testing.T, r impl.Rule) impl.Rule {
	t.Helper()
	flipped, ok := impl.FlipRule(r)
	if !ok {
		t.Fatalf("FlipRule(%v) fails", r)
	}
	return flipped
}

func wantThrough(t *testing.T, r impl.Rule, one, two []int, want ...int) {
	t.Helper()
	answers, ok := impl.PlayThrough(r, one, two)
	wantList(t, fmt.Sprintf("PlayThrough(%v, %v, %v)", r, one, two), answers, ok, want...)
}

func TestNamedRulesByHand(t *testing.T) {
	first, ask := []int{0, 1}, [][]int{{0, 0}, {1, 1}}
	wantNamed(t, impl.RulePass, impl.Rule{First: first, Ask: ask, Say: [][]int{{0, 0, 1, 1}, {0, 0, 1, 1}}})
	wantNamed(t, impl.RuleLate, impl.Rule{First: first, Ask: ask, Say: [][]int{{0, 1, 0, 1}, {0, 1, 0, 1}}})
	wantNamed(t, impl.RuleSum, impl.Rule{First: first, Ask: ask, Say: [][]int{{0, 1, 1, 0}, {0, 1, 1, 0}}})
	wantNamed(t, 1, passRule())
	wantNamed(t, 2, lateRule())
	wantNamed(t, 3, sumRule())
}

// Boxes answer to both questions of a player in all ways.
func TestNamedRulesAnswer(t *testing.T) {
	for _, one := range allLists(2, 2) {
		for _, two := range allLists(2, 2) {
			wantThrough(t, passRule(), one, two, one...)
			wantThrough(t, lateRule(), one, two, two...)
			wantThrough(t, sumRule(), one, two, (one[0]+two[0])%2, (one[1]+two[1])%2)
		}
	}
}

func TestSumRulesByAllAskLists(t *testing.T) {
	wantSumRule(t, []int{0, 1, 1, 1}, impl.Rule{First: []int{0, 1}, Ask: [][]int{{0, 1}, {1, 1}}, Say: [][]int{{0, 1, 1, 0}, {0, 1, 1, 0}}})
	named, ok := impl.NamedRule(impl.RuleSum)
	wantRule(t, "the sum rule", named, ok, sumRule())
	wantSumRule(t, []int{0, 0, 1, 1}, named)
	for _, asks := range allLists(4, 2) {
		wantSumRule(t, asks, sumRuleOf(asks))
		for _, one := range allLists(2, 2) {
			for _, two := range allLists(2, 2) {
				var want []int
				for x := range 2 {
					want = append(want, (one[x]+two[asks[2*x+one[x]]])%2)
				}
				r, _ := impl.SumRuleBy(asks)
				wantThrough(t, r, one, two, want...)
			}
		}
	}
}

func TestRulesOfAllNumbers(t *testing.T) {
	rules := allRules()
	if len(rules) != 1<<ruleNumbers {
		t.Fatalf("%d Rules", len(rules))
	}
	lists := allLists(2, 2)
	for _, r := range rules {
		if !impl.IsRule(r) {
			t.Fatalf("not IsRule(%v)", r)
		}
		flipped := mustFlipRule(t, r)
		wantRule(t, fmt.Sprintf("FlipRule(%v)", r), flipped, true, otherAnswers(r))
		wantRule(t, fmt.Sprintf("FlipRule(%v)", flipped), mustFlipRule(t, flipped), true, r)
		for _, one := range lists {
			for _, two := range lists {
				a, c := playedByHand(r, 0, one, two), playedByHand(r, 1, one, two)
				wantThrough(t, r, one, two, a, c)
				wantThrough(t, flipped, one, two, 1-a, 1-c)
			}
		}
	}
}

// Each number of a Rule stands for itself alone.
func TestPlayThroughByHand(t *testing.T) {
	r := impl.Rule{First: []int{1, 1}, Ask: [][]int{{1, 0}, {0, 0}}, Say: [][]int{{1, 0, 0, 0}, {0, 0, 0, 1}}}
	// The first Box answers 0 to the question 1, so that the question 0 leads to the question 1 of the second one.
	wantThrough(t, r, []int{1, 0}, []int{1, 0}, 1, 0)
	wantThrough(t, r, []int{1, 0}, []int{0, 1}, 0, 0)
	// It answers 1, so that both questions lead to the question 0.
	wantThrough(t, r, []int{0, 1}, []int{1, 0}, 0, 1)
	wantThrough(t, r, []int{0, 1}, []int{0, 1}, 0, 0)
	wantThrough(t, mustFlipRule(t, r), []int{0, 1}, []int{1, 0}, 1, 0)
	only := ruleOf(make([]int, ruleNumbers))
	wantThrough(t, only, []int{1, 1}, []int{1, 1}, 0, 0)
	for place := range 4 {
		only = ruleOf(make([]int, ruleNumbers))
		only.Say[0][place] = 1
		for answers := range 4 {
			want := 0
			if answers == place {
				want = 1
			}
			wantThrough(t, only, []int{answers / 2, 0}, []int{answers % 2, 1}, want, 0)
		}
	}
}

func TestNoRulesOfOtherNames(t *testing.T) {
	for _, name := range append(extremeInts(), -3, -2, -1, 0, 4, 5, 6, 7, 100, -100, 1<<32+1, 1<<32+3) {
		r, ok := impl.NamedRule(name)
		wantNoRule(t, fmt.Sprintf("NamedRule(%d)", name), r, ok)
	}
}

func TestNoSumRulesByOtherLists(t *testing.T) {
	bad := append(badBits(4), []int{0, 1}, []int{0}, []int{0, 0, 1}, []int{0, 0, 1, 1, 0})
	for _, asks := range bad {
		r, ok := impl.SumRuleBy(asks)
		wantNoRule(t, fmt.Sprintf("SumRuleBy(%v)", asks), r, ok)
	}
}

func wantNotThrough(t *testing.T, r impl.Rule, one, two []int) {
	t.Helper()
	answers, ok := impl.PlayThrough(r, one, two)
	wantNoList(t, fmt.Sprintf("PlayThrough(%v, %v, %v)", r, one, two), answers, ok)
}

// In some of the Rules, an answer that is not valid is not even looked at.
func TestNoPlayThroughOfOtherLists(t *testing.T) {
	for _, r := range []impl.Rule{passRule(), lateRule(), sumRule(), ruleOf(make([]int, ruleNumbers)), ruleOf(slices.Repeat([]int{1}, ruleNumbers))} {
		for _, bad := range badBits(2) {
			for _, good := range allLists(2, 2) {
				wantNotThrough(t, r, bad, good)
				wantNotThrough(t, r, good, bad)
			}
			wantNotThrough(t, r, bad, bad)
		}
	}
}

func TestFlawedRulesAreNone(t *testing.T) {
	for _, bad := range flawedRules() {
		if impl.IsRule(bad) {
			t.Fatalf("IsRule(%v)", bad)
		}
		r, ok := impl.FlipRule(bad)
		wantNoRule(t, fmt.Sprintf("FlipRule(%v)", bad), r, ok)
		for _, one := range allLists(2, 2) {
			wantNotThrough(t, bad, one, []int{0, 1})
			wantNotThrough(t, bad, []int{1, 0}, one)
		}
		wantNotThrough(t, bad, nil, nil)
		wantNotThrough(t, bad, []int{}, []int{2, 2})
	}
}
