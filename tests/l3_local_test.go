package tests

import (
	"fmt"
	"math/rand"
	"testing"

	"loop.example/g01141/impl"
)

func checkLocal(t *testing.T, b impl.Box) bool {
	t.Helper()
	want := isQuietByHand(b) && isLocalByShares(b)
	local, ok := impl.IsLocal(b)
	wantReport(t, fmt.Sprintf("IsLocal(%v)", b), local, ok, want)
	if isQuietByHand(b) && !want {
		checkHasWitness(t, b)
	}
	return want
}

func wantWitness(t *testing.T, b impl.Box, f [][]int) {
	t.Helper()
	is, ok := impl.IsWitness(b, f)
	wantReport(t, fmt.Sprintf("IsWitness(%v, %v)", b, f), is, ok, true)
}

// checkHasWitness finds one among sums, or among triples, of a quiet Box that is not local.
func checkHasWitness(t *testing.T, b impl.Box) {
	t.Helper()
	greatest, ok := impl.GreatestSum(b)
	if ok && greatest > 2*b.Whole {
		first, second, m, found := impl.FirstSum(b)
		f, ok := impl.SumFunctional(b.X, b.Y, first, second, m)
		if sum, summed := impl.SumOf(b, first, second, m); summed && sum < 0 {
			f = opposite(f)
		}
		if !found || !ok {
			t.Fatalf("FirstSum or SumFunctional of %v fails", b)
		}
		wantWitness(t, b, f)
		return
	}
	triple, ok := impl.GreatestTriple(b)
	if !ok || triple <= 0 {
		t.Fatalf("%v is not local, with the greatest sum %d and the greatest triple %d", b, greatest, triple)
	}
	for _, k := range allTurns() {
		form := turned(b, k)
		if worth, ok := impl.TripleWorth(form); ok && worth == triple {
			wantWitness(t, form, tripleFunctional())
			wantWitness(t, b, turnedFunctional(tripleFunctional(), k))
			return
		}
	}
	t.Fatalf("no form of %v has the triple worth %d", b, triple)
}

func opposite(f [][]int) [][]int {
	f = copyRows(f)
	for _, factors := range f {
		for i := range factors {
			factors[i] = -factors[i]
		}
	}
	return f
}

func TestLocalByHand(t *testing.T) {
	if checkLocal(t, equalSums()) || checkLocal(t, triplesBeyond()) {
		t.Error("a Box is local that has sums or triples beyond")
	}
	wantWitness(t, equalSums(), sumFunctionalByHand(2, 2, sumPlace{[2]int{0, 1}, [2]int{0, 1}, 3}))
	wantWitness(t, triplesBeyond(), tripleFunctional())
	// With as much noise as this, the greatest sum is 2 times the Whole, and with a little less it is beyond.
	for noise, want := range map[int]bool{1: false, 49: false, 50: true, 51: true, 100: true} {
		scaled, one := impl.ScaleBox(equalSums(), 100)
		b, two := impl.NoiseBox(2, 2, noise)
		if !one || !two || checkLocal(t, mustMix(t, scaled, b)) != want {
			t.Errorf("with the noise %d, the Box of equal sums is local: %v", noise, !want)
		}
	}
}

func TestLocalAmongAllSmallQuietBoxes(t *testing.T) {
	for _, c := range []struct{ x, y, whole, local, others int }{
		{1, 1, 3, 20, 0}, {1, 2, 2, 34, 0}, {2, 1, 2, 34, 0}, {1, 3, 2, 118, 0}, {3, 1, 2, 118, 0},
		{2, 2, 1, 16, 0}, {2, 2, 2, 128, 8}, {2, 2, 3, 688, 64}, {2, 3, 1, 32, 0}, {3, 2, 1, 32, 0},
	} {
		local, others := 0, 0
		for _, b := range allQuietBoxes(c.x, c.y, c.whole) {
			if checkLocal(t, b) {
				local++
			} else {
				others++
			}
		}
		if local != c.local || others != c.others {
			t.Errorf("of the quiet Boxes for %v, %d are local and %d are not", c, local, others)
		}
	}
}

// With one question of a player, each quiet Box is local.
func TestLocalAmongAnyQuietBoxes(t *testing.T) {
	r := rand.New(rand.NewSource(30))
	for _, size := range allSizes() {
		others := 0
		for n := range 400 {
			if !checkLocal(t, anyQuietBox(r, size[0], size[1], 1+r.Intn([]int{3, 10, 100, impl.MaxWhole}[n%4]))) {
				others++
			}
		}
		if some := size[0] > 1 && size[1] > 1; some != (others > 0) {
			t.Errorf("for %v questions, %d quiet Boxes are not local", size, others)
		}
	}
}

// someStrictBox has the Whole 2, and each question has equal answers, or different ones, to each other one.
func someStrictBox(r *rand.Rand, x, y int) impl.Box {
	both := someBits(r, x*y)
	return quietBox(2, []int{1, 1, 1}[:x], []int{1, 1, 1}[:y], func(i, j int) int { return both[i*y+j] })
}

func boxByTimes(b impl.Box, times int) impl.Box {
	return boxBy(b.X, b.Y, b.Whole*times, func(x, y, a, c int) int { return times * numberAt(b, x, y, a, c) })
}

func TestLocalAmongMixedStrictBoxes(t *testing.T) {
	r := rand.New(rand.NewSource(31))
	for _, size := range [][2]int{{2, 2}, {2, 3}, {3, 2}, {3, 3}} {
		x, y := size[0], size[1]
		local, others := 0, 0
		for range 500 {
			mixture := mixtureByHand(x, y, someShares(r, x, y, 1+r.Intn(30)))
			if checkLocal(t, mustMix(t, boxByTimes(someStrictBox(r, x, y), 1+r.Intn(4)), mixture)) {
				local++
			} else {
				others++
			}
		}
		if local < 50 || others < 50 {
			t.Errorf("for %v questions, %d were local and %d were not", size, local, others)
		}
	}
}

// playsWithWorth are all plays for which a functional has a worth.
func playsWithWorth(x, y int, f [][]int, worth int) [][]int {
	var plays [][]int
	for _, play := range allLists(x+y, 2) {
		if worthByHand(f, playBoxByHand(x, y, play, 1)) == worth {
			plays = append(plays, play)
		}
	}
	return plays
}

// addPlays mixes plays of a list into a Box.
func addPlays(t *testing.T, r *rand.Rand, b impl.Box, plays [][]int, times int) impl.Box {
	t.Helper()
	for times > 0 {
		part := 1 + r.Intn(times)
		b = mustMix(t, b, mustPlayBox(t, b.X, b.Y, plays[r.Intn(len(plays))], part))
		times -= part
	}
	return b
}

// The Box has the sum 4 times its Whole 2. What it has beyond 2 times Whole is taken away by as many parts of plays whose sum is
// -2: with just as many, it is a Box whose sum is 2 times Whole.
func TestLocalAtTheBorderOfSums(t *testing.T) {
	r := rand.New(rand.NewSource(32))
	for _, size := range [][2]int{{2, 2}, {2, 3}, {3, 2}, {3, 3}} {
		x, y := size[0], size[1]
		for _, p := range placesOfSums(x, y) {
			for _, sign := range []int{1, -1} {
				f := sumFunctionalByHand(x, y, p)
				if sign < 0 {
					f = opposite(f)
				}
				base := quietBox(2, []int{1, 1, 1}[:x], []int{1, 1, 1}[:y], func(i, j int) int { return max(f[i*y+j][3], 0) })
				for _, scale := range []int{1, 2, 10, 200} {
					for change := -1; change <= 1; change++ {
						b := addPlays(t, r, boxByTimes(base, scale), playsWithWorth(x, y, f, -2), scale+change)
						b = addPlays(t, r, b, playsWithWorth(x, y, f, 2), r.Intn(200))
						if worth := worthByHand(f, b); checkLocal(t, b) && worth > 2*b.Whole || worth != 2*b.Whole-4*change {
							t.Fatalf("%v is local with the sum %d", b, worth)
						}
					}
				}
			}
		}
	}
}

// The Box has the triple worth 2, which is taken away by 2 parts of plays with -1.
func TestLocalAtTheBorderOfTriples(t *testing.T) {
	r := rand.New(rand.NewSource(33))
	local, byTriples := 0, 0
	for n := range 2000 {
		scale := []int{1, 1, 2, 10}[r.Intn(4)]
		change := n%4 - 1
		b := addPlays(t, r, boxByTimes(triplesBeyond(), scale), playsWithWorth(3, 3, tripleFunctional(), -1), 2*scale-change)
		b = addPlays(t, r, b, playsWithWorth(3, 3, tripleFunctional(), 0), r.Intn(10*scale))
		if worth := tripleByHand(b); worth != change {
			t.Fatalf("the triple worth of %v is %d", b, worth)
		}
		b = turned(b, someTurn(r))
		switch {
		case checkLocal(t, b):
			local++
		case greatestSumByHand(b) <= 2*b.Whole:
			byTriples++
		}
	}
	if local < 100 || byTriples < 100 {
		t.Errorf("%d Boxes were local, and %d were not, for triples alone", local, byTriples)
	}
}

// A mixture of plays is quiet, so that a loud Box is not local, however small its sums are.
func TestLoudBoxesAreNotLocal(t *testing.T) {
	r := rand.New(rand.NewSource(34))
	loud := 0
	for range 2000 {
		size := allSizes()[r.Intn(9)]
		b := someBox(r, size[0], size[1])
		if isQuietByHand(b) {
			continue
		}
		loud++
		checkLocal(t, b)
	}
	for _, size := range allSizes() {
		b := boxBy(size[0], size[1], 8, func(int, int, int, int) int { return 2 })
		b.Rows[len(b.Rows)-1] = []int{1, 3, 2, 2}
		if checkLocal(t, b) != (size[0] == 1) {
			t.Errorf("IsLocal(%v)", b)
		}
		b.Rows[len(b.Rows)-1] = []int{1, 2, 3, 2}
		if checkLocal(t, b) != (size[1] == 1) {
			t.Errorf("IsLocal(%v)", b)
		}
	}
	if loud < 1000 {
		t.Errorf("only %d Boxes were loud", loud)
	}
}

// Of four bits, each two have all four pairs of values as often. The answers to the first question of both players are the first
// bit, those to the second one the second bit, and those to the third one the other two.
func fourBits() impl.Box {
	return boxBy(3, 3, 4, func(x, y, a, c int) int {
		if x != y || x == 2 {
			return 1
		}
		return 2 * (1 - a ^ c)
	})
}

// With four plays there are no such bits, but with eight: all those with an even sum.
func TestLocalByAMixtureWithAGreaterWholeOnly(t *testing.T) {
	b := fourBits()
	if !checkLocal(t, b) {
		t.Errorf("%v is not local", b)
	}
	eight := make([]int, 64)
	var fitting []int
	for place, play := range allLists(6, 2) {
		if play[0] == play[3] && play[1] == play[4] {
			fitting = append(fitting, place)
			eight[place] = 1 - (play[0]+play[1]+play[2]+play[5])%2
		}
	}
	is, ok := impl.IsMixture(b, eight)
	wantReport(t, fmt.Sprintf("IsMixture(%v, %v)", b, eight), is, ok, true)
	for _, four := range allShares(len(fitting), 4) {
		shares := make([]int, 64)
		for i, share := range four {
			shares[fitting[i]] = share
		}
		is, ok := impl.IsMixture(b, shares)
		wantReport(t, fmt.Sprintf("IsMixture(%v, %v)", b, shares), is, ok, false)
	}
}

// Here a mixture with 2 times the Whole would have more than MaxWhole.
func TestLocalWithGreatWholes(t *testing.T) {
	r := rand.New(rand.NewSource(35))
	local, others := 0, 0
	for _, whole := range []int{501, 997, 999, impl.MaxWhole} {
		for range 30 {
			few := mixtureByHand(3, 3, someShares(r, 3, 3, whole-4))
			beyond := turned(boxByTimes(triplesBeyond(), (whole-300)/2), someTurn(r))
			rest := mixtureByHand(3, 3, someShares(r, 3, 3, whole-beyond.Whole))
			for _, b := range []impl.Box{mustMix(t, fourBits(), few), mustMix(t, beyond, rest), anyQuietBox(r, 3, 3, whole)} {
				if b.Whole != whole {
					t.Fatalf("%v has not the Whole %d", b, whole)
				}
				if checkLocal(t, b) {
					local++
				} else {
					others++
				}
			}
		}
	}
	if local < 100 || others < 100 {
		t.Errorf("%d were local and %d were not", local, others)
	}
}

// What is alike, or another form, is local, too.
func TestLocalFormsAndLikes(t *testing.T) {
	r := rand.New(rand.NewSource(36))
	for range 500 {
		b := mustMix(t, boxByTimes(someStrictBox(r, 3, 3), 1+r.Intn(3)), mixtureByHand(3, 3, someShares(r, 3, 3, 1+r.Intn(12))))
		want, ok := impl.IsLocal(b)
		local, fine := impl.IsLocal(turned(b, someTurn(r)))
		wantReport(t, fmt.Sprintf("IsLocal of a form of %v", b), local, ok && fine, want)
		local, ok = impl.IsLocal(boxByTimes(b, 2+r.Intn(20)))
		wantReport(t, fmt.Sprintf("IsLocal of a Box like %v", b), local, ok, want)
	}
}

func callsOfLayer3() map[string]ofBox {
	pair := [2]int{0, 1}
	return map[string]ofBox{
		"SumOf":          func(b, _ impl.Box) (bool, bool) { n, ok := impl.SumOf(b, pair, pair, 3); return ok, n == 0 },
		"GreatestSum":    func(b, _ impl.Box) (bool, bool) { n, ok := impl.GreatestSum(b); return ok, n == 0 },
		"TripleWorth":    func(b, _ impl.Box) (bool, bool) { n, ok := impl.TripleWorth(b); return ok, n == 0 },
		"GreatestTriple": func(b, _ impl.Box) (bool, bool) { n, ok := impl.GreatestTriple(b); return ok, n == 0 },
		"IsLocal":        func(b, _ impl.Box) (bool, bool) { local, ok := impl.IsLocal(b); return ok, !local },
		"FirstSum": func(b, _ impl.Box) (bool, bool) {
			first, second, m, ok := impl.FirstSum(b)
			return ok, first == [2]int{} && second == [2]int{} && m == 0
		},
		"IsMixture": func(b, good impl.Box) (bool, bool) {
			shares := make([]int, countPlays(good.X, good.Y))
			shares[0] = 1
			is, ok := impl.IsMixture(b, shares)
			return ok, !is
		},
		"IsWitness": func(b, good impl.Box) (bool, bool) {
			is, ok := impl.IsWitness(b, noFactors(good.X*good.Y))
			return ok, !is
		},
		"IsWitness by 1": func(b, good impl.Box) (bool, bool) {
			f := noFactors(good.X * good.Y)
			f[0] = []int{1, 1, 1, 1}
			is, ok := impl.IsWitness(b, f)
			return ok, !is
		},
	}
}

func TestNoFunctionOfLayer3TakesAFlawedBox(t *testing.T) {
	checkFlawedBoxesFail(t, callsOfLayer3())
	for name, call := range callsOfLayer3() {
		if ok, _ := call(triplesBeyond(), triplesBeyond()); !ok {
			t.Errorf("%s of a quiet Box fails", name)
		}
	}
}
