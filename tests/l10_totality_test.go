package tests

import (
	"fmt"
	"math/rand"
	"slices"
	"testing"

	"loop.example/g01141/impl"
)

// l10Arguments are those of all functions of chapter 10 at once.
type l10Arguments struct {
	a, b            impl.Box
	first, second   impl.Rule
	firsts, seconds []impl.Rule
	asks, one, two  []int
	name, n, k      int
}

// ruleResults look at the lists of a Rule three times: all at once, and alone, with room behind them.
func ruleResults(name string, r impl.Rule, ok bool) []layerResult {
	lists := slices.Concat(r.Ask, r.Say)
	if r.First != nil {
		lists = append(lists, r.First)
	}
	all := layerResult{name, "", lists, isZeroRule(r), ok}
	return []layerResult{all, rowsResult(name+", Ask", r.Ask, ok), rowsResult(name+", Say", r.Say, ok)}
}

func (v l10Arguments) call() []layerResult {
	var results []layerResult
	add := func(list ...layerResult) { results = append(results, list...) }
	is := impl.IsRule(v.first)
	add(reportResult("IsRule", is, is))
	r, ok := impl.NamedRule(v.name)
	add(ruleResults("NamedRule", r, ok)...)
	r, ok = impl.SumRuleBy(v.asks)
	add(ruleResults("SumRuleBy", r, ok)...)
	r, ok = impl.FlipRule(v.first)
	add(ruleResults("FlipRule", r, ok)...)
	list, ok := impl.PlayThrough(v.first, v.one, v.two)
	add(listResult("PlayThrough", list, ok))
	b, ok := impl.WireBoxes(v.a, v.b, v.first, v.second)
	add(boxResult("WireBoxes", b, ok))
	b, ok = impl.SumBoxes(v.a, v.b)
	add(boxResult("SumBoxes", b, ok))
	b, ok = impl.RepeatSum(v.a, v.n)
	add(boxResult("RepeatSum", b, ok))
	one, two, n, ok := impl.BestAsks(v.a, v.b, v.k)
	add(layerResult{"BestAsks", fmt.Sprint(n), [][]int{one, two}, len(one) == 0 && len(two) == 0 && n == 0, ok})
	b, ok = impl.MixWirings(v.a, v.b, v.firsts, v.seconds)
	add(boxResult("MixWirings", b, ok))
	return results
}

func ruleWithRoom(r impl.Rule) impl.Rule {
	return impl.Rule{First: withRoom(r.First), Ask: rowsWithRoom(r.Ask), Say: rowsWithRoom(r.Say)}
}

func rulesWithRoom(rules []impl.Rule) []impl.Rule {
	roomy := make([]impl.Rule, len(rules), len(rules)+3)
	for i, r := range rules {
		roomy[i] = ruleWithRoom(r)
	}
	return roomy
}

func (v l10Arguments) withRoom() l10Arguments {
	v.a.Rows, v.b.Rows = rowsWithRoom(v.a.Rows), rowsWithRoom(v.b.Rows)
	v.first, v.second = ruleWithRoom(v.first), ruleWithRoom(v.second)
	v.firsts, v.seconds = rulesWithRoom(v.firsts), rulesWithRoom(v.seconds)
	v.asks, v.one, v.two = withRoom(v.asks), withRoom(v.one), withRoom(v.two)
	return v
}

func memoryOfRules(rules ...impl.Rule) string {
	s := fmt.Sprintln(len(rules))
	for _, r := range rules[:cap(rules)] {
		s += memoryOfLists(r.First) + memoryOfRows(r.Ask) + memoryOfRows(r.Say)
	}
	return s
}

func (v l10Arguments) memory() string {
	s := fmt.Sprint(v.a.X, v.a.Y, v.a.Whole, v.b.X, v.b.Y, v.b.Whole, v.name, v.n, v.k)
	s += memoryOfRows(v.a.Rows) + memoryOfRows(v.b.Rows) + memoryOfLists(v.asks, v.one, v.two)
	return s + memoryOfRules(v.first, v.second) + memoryOfRules(v.firsts...) + memoryOfRules(v.seconds...)
}

// wildRule may be flawed in one list, or in all.
func wildRule(r *rand.Rand) impl.Rule {
	rule := someRule(r)
	switch r.Intn(20) {
	case 0:
		rule.First = wildList(r)
	case 1:
		rule.Ask = wildRows(r, rule.Ask)
	case 2:
		rule.Say = wildRows(r, rule.Say)
	case 3:
		return impl.Rule{}
	}
	return rule
}

func wildRules(r *rand.Rand, count int) []impl.Rule {
	rules := someRules(r, count)
	if count > 0 && r.Intn(5) == 0 {
		rules[r.Intn(count)] = wildRule(r)
	}
	return rules
}

// wildFactor has a small Whole for the most part, so that the product of two of them is that of a Box.
func wildFactor(r *rand.Rand) impl.Box {
	switch r.Intn(8) {
	case 0:
		return wildBox(r, 2, 2)
	case 1:
		return wildBox(r, 1+r.Intn(3), 1+r.Intn(3))
	case 2, 3, 4:
		return quietOfAtMost(r, 15)
	}
	return boxOfWhole(r, 1+r.Intn(15))
}

// spoil changes at most one of the arguments, beside the Boxes and the Rules.
func (v *l10Arguments) spoil(r *rand.Rand) {
	switch r.Intn(10) {
	case 0, 1, 2:
		*[]*int{&v.name, &v.n, &v.k}[r.Intn(3)] = wildInt(r)
	case 3:
		v.asks = wildList(r)
	case 4:
		v.one = wildList(r)
	case 5:
		v.two = wildList(r)
	case 6:
		v.firsts = wildRules(r, r.Intn(4))
	case 7:
		v.seconds = nil
	}
}

func wildL10Arguments(r *rand.Rand) l10Arguments {
	count := 1 + r.Intn(3)
	v := l10Arguments{
		a: wildFactor(r), b: wildFactor(r), first: wildRule(r), second: wildRule(r),
		firsts: wildRules(r, count), seconds: wildRules(r, count),
		asks: someBits(r, 4), one: someBits(r, 2), two: someBits(r, 2), name: 1 + r.Intn(3), n: 1 + r.Intn(impl.MaxRepeats), k: r.Intn(impl.SumKinds),
	}
	v.spoil(r)
	return v
}

func TestLayer10IsTotalAndChangesNothing(t *testing.T) {
	r := rand.New(rand.NewSource(1030))
	checkTotal(t, func() l10Arguments { return wildL10Arguments(r) })
}

// The arguments are such that a function could return a part of them as it is: the Boxes have the Whole 1 and are their own sums,
// the Rules pass on what a Box answers, the lists are those that are best, and one Box is repeated once and mixed alone.
func TestLayer10SharesNoMemory(t *testing.T) {
	for _, rule := range []impl.Rule{passRule(), lateRule(), sumRule(), ruleOf(make([]int, ruleNumbers))} {
		for name := 1; name <= 3; name++ {
			for _, play := range [][]int{{0, 0, 0, 0}, {0, 1, 1, 0}} {
				v := l10Arguments{
					a: playBoxByHand(2, 2, play, 1), b: playBoxByHand(2, 2, []int{0, 0, 0, 0}, 1), first: rule, second: rule,
					firsts: []impl.Rule{rule}, seconds: []impl.Rule{rule}, asks: []int{0, 0, 0, 0}, one: []int{0, 1}, two: []int{0, 1},
					name: name, n: 1, k: name,
				}
				checkSharesNothing(t, v)
				v.a, v.b = v.b, v.a
				checkSharesNothing(t, v)
				v.asks, v.n = ownQuestions(), 2*name
				checkSharesNothing(t, v)
				v.a, v.b = equalSums(), equalSums()
				v.firsts, v.seconds = []impl.Rule{rule, sumRule()}, []impl.Rule{passRule(), rule}
				checkSharesNothing(t, v)
			}
		}
	}
}

// The same lists and Rules may stand in several places of the arguments.
func TestSharedArgumentsOfLayer10(t *testing.T) {
	list, rows := []int{0, 1}, [][]int{{0, 1, 1, 0}, {0, 1, 1, 0}}
	rows[1] = rows[0]
	r := impl.Rule{First: list, Ask: [][]int{list, list}, Say: rows}
	want := impl.Rule{First: []int{0, 1}, Ask: [][]int{{0, 1}, {0, 1}}, Say: [][]int{{1, 0, 0, 1}, {1, 0, 0, 1}}}
	flipped, ok := impl.FlipRule(r)
	wantRule(t, "FlipRule", flipped, ok, want)
	if !overwrite(slices.Concat([][]int{flipped.First}, flipped.Ask, flipped.Say)) {
		t.Error("the lists of a flipped Rule share memory")
	}
	wantThrough(t, r, list, list, 0, 0)
	wantRule(t, "the Rule", r, true, impl.Rule{First: []int{0, 1}, Ask: want.Ask, Say: [][]int{{0, 1, 1, 0}, {0, 1, 1, 0}}})
	one := equalSums()
	one.Rows[1], one.Rows[2] = one.Rows[0], one.Rows[0]
	wantWiring(t, one, one, r, r, wiringByHand(equalSums(), equalSums(), copyRule(r), copyRule(r)))
	rules := []impl.Rule{r, r, r}
	wantMixed(t, one, one, rules, rules, boxByTimes(wiringByHand(one, one, r, r), 3))
	wantBox(t, "the Box", one, true, equalSums())
}

// Each call makes its Rule anew, also of the same numbers.
func TestRulesAreMadeAnew(t *testing.T) {
	calls := map[string]func() (impl.Rule, bool){
		"RulePass":  func() (impl.Rule, bool) { return impl.NamedRule(impl.RulePass) },
		"RuleLate":  func() (impl.Rule, bool) { return impl.NamedRule(impl.RuleLate) },
		"RuleSum":   func() (impl.Rule, bool) { return impl.NamedRule(impl.RuleSum) },
		"SumRuleBy": func() (impl.Rule, bool) { return impl.SumRuleBy([]int{0, 0, 1, 1}) },
	}
	for name, call := range calls {
		one, _ := call()
		kept := copyRule(one)
		overwrite(slices.Concat([][]int{one.First}, one.Ask, one.Say))
		one.Ask[0], one.Say[1] = nil, nil
		two, ok := call()
		wantRule(t, name+", again", two, ok, kept)
		wantSum(t, equalSums(), equalSums(), sumBoxesByHand(equalSums(), equalSums()))
	}
}
