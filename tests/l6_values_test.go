package tests

import (
	"fmt"
	"math/rand"
	"slices"
	"testing"

	"loop.example/g01141/impl"
)

func wantQuietValue(t *testing.T, g impl.Game, value, best int) {
	t.Helper()
	got, ok := impl.QuietValue(g)
	wantNumber(t, fmt.Sprintf("QuietValue(%v)", g), got, ok, value)
	got, ok = impl.QuietBest(g)
	wantNumber(t, fmt.Sprintf("QuietBest(%v)", g), got, ok, best)
}

// checkQuietValue compares with the scores of all extreme Boxes, and with that of the best play.
func checkQuietValue(t *testing.T, g impl.Game) (value, best int) {
	t.Helper()
	var scores []int
	for _, e := range extremesByHand() {
		scores = append(scores, boxScoreByHand(g, e))
	}
	value = slices.Max(scores)
	best = slices.Index(scores, value)
	wantQuietValue(t, g, value, best)
	first, ok := impl.ExtremeBox(best)
	if !ok || mustBoxScore(t, g, first) != value || value < 2*valueByHand(g) {
		t.Fatalf("QuietValue(%v) = %d, QuietBest = %d, and the value is %d", g, value, best, valueByHand(g))
	}
	return value, best
}

func TestQuietValuesByHand(t *testing.T) {
	wantQuietValue(t, equalSumsGame(1), 8, 16)
	wantQuietValue(t, equalSumsGame(impl.MaxStake), 8*impl.MaxStake, 16)
	// All answers win, or none, so that all extreme Boxes have the same score.
	wantQuietValue(t, gameBy(2, 2, markedWeights, always), 2*(1+4+11+14), 0)
	wantQuietValue(t, gameBy(2, 2, markedWeights, never), 0, 0)
	// Equal answers, or different ones, win: the first play, and the first one with different answers.
	wantQuietValue(t, gameBy(2, 2, allWeights(3), same), 24, 0)
	wantQuietValue(t, gameBy(2, 2, allWeights(3), func(_, _, a, c int) bool { return a != c }), 24, 3)
	// Here 1 and 0 alone win where both questions are 1: the play 0 1 0 0 has as much as the equal sums.
	wantQuietValue(t, game(2, 2, []int{1, 1, 1, 2}, []int{1, 0, 0, 1}, []int{1, 0, 0, 1}, []int{1, 0, 0, 1}, []int{0, 0, 1, 0}), 8, 4)
}

// Each game is won by one extreme Box alone, or first.
func TestQuietBestOfEachExtremeBox(t *testing.T) {
	for i, e := range extremesByHand() {
		g := gameBy(2, 2, markedWeights, func(x, y, a, c int) bool { return numberAt(e, x, y, a, c) > 0 })
		wantQuietValue(t, g, 2*(1+4+11+14), i)
		checkQuietValue(t, g)
	}
}

// Without a pair, a play wins all that an equal-sum box does; the least play that does so is the first.
func TestQuietValuesWithWeightsOf0(t *testing.T) {
	for place := range 4 {
		for k := range impl.SumKinds {
			g := gameBy(2, 2, allWeights(5), func(x, y, a, c int) bool { return numberAt(sumBoxByHand(k), x, y, a, c) > 0 })
			g.Weights[place] = 0
			perfect, _ := impl.PerfectPlay(g)
			number := slices.IndexFunc(allLists(4, 2), func(play []int) bool { return slices.Equal(play, perfect) })
			wantQuietValue(t, g, 30, number)
			checkQuietValue(t, g)
			// With all weights but one at 0, four plays win all, each with one of both winning pairs of answers.
			g.Weights = []int{0, 0, 0, 0}
			g.Weights[place] = 7
			if value, best := checkQuietValue(t, g); value != 14 || best > 3 {
				t.Errorf("QuietValue(%v) = %d, QuietBest %d", g, value, best)
			}
		}
	}
}

func TestQuietValues(t *testing.T) {
	r := rand.New(rand.NewSource(99))
	plays, sums, ties := 0, 0, 0
	for range 3000 {
		g := someGame(r, 2, 2)
		if r.Intn(4) == 0 {
			g = someSignGame(t, r, 2, 2)
		}
		value, best := checkQuietValue(t, g)
		if best < 16 {
			plays++
		} else {
			sums++
		}
		later := slices.IndexFunc(extremesByHand()[best+1:], func(e impl.Box) bool { return boxScoreByHand(g, e) == value })
		if later >= 0 {
			ties++
		}
	}
	if plays < 300 || sums < 300 || ties < 300 {
		t.Errorf("plays were best %d times, equal sums %d times, and several %d times", plays, sums, ties)
	}
}

// No quiet Box has more, as if its Whole were 2.
func TestNoQuietBoxHasMoreThanTheQuietValue(t *testing.T) {
	r := rand.New(rand.NewSource(100))
	small := slices.Concat(allQuietBoxes(2, 2, 1), allQuietBoxes(2, 2, 2), allQuietBoxes(2, 2, 3))
	for n := range 1500 {
		g := someGame(r, 2, 2)
		value, ok := impl.QuietValue(g)
		boxes := []impl.Box{someQuietOfTwo(r), someQuietOfTwo(r), someQuietOfTwo(r)}
		if n%100 == 0 {
			boxes = small
		}
		for _, b := range boxes {
			if score := mustBoxScore(t, g, b); !ok || 2*score > value*b.Whole {
				t.Fatalf("QuietValue(%v) = %d, %v, and the score of %v is %d", g, value, ok, b, score)
			}
		}
	}
	// A loud Box may have more.
	loud := box(2, 2, 1, []int{1, 0, 0, 0}, []int{0, 1, 0, 0}, []int{0, 0, 1, 0}, []int{0, 0, 0, 1})
	g := gameBy(2, 2, allWeights(1), func(x, y, a, c int) bool { return numberAt(loud, x, y, a, c) > 0 })
	if value, best := checkQuietValue(t, g); value != 8 || best != 5 {
		t.Errorf("QuietValue(%v) = %d, QuietBest %d", g, value, best)
	}
}

func wantRange(t *testing.T, f [][]int, least, greatest int) {
	t.Helper()
	low, high, ok := impl.WorthRange(f)
	if !ok || low != least || high != greatest {
		t.Fatalf("WorthRange(%v) = %d, %d, %v; want %d, %d, true", f, low, high, ok, least, greatest)
	}
}

func checkRange(t *testing.T, f [][]int) (least, greatest int) {
	t.Helper()
	var worths []int
	for _, e := range extremesByHand() {
		worths = append(worths, worthByHand(f, e))
	}
	least, greatest = slices.Min(worths), slices.Max(worths)
	wantRange(t, f, least, greatest)
	value, _ := bestByHand(2, 2, f)
	if greatest < 2*value {
		t.Fatalf("WorthRange(%v) = %d, %d, and the best play has %d", f, least, greatest, value)
	}
	return least, greatest
}

func TestWorthRangesByHand(t *testing.T) {
	equal := []int{1, 0, 0, 1}
	wantRange(t, [][]int{equal, equal, equal, equal}, 0, 8)
	wantRange(t, noFactors(4), 0, 0)
	wantRange(t, [][]int{{7, 7, 7, 7}, {0, 0, 0, 0}, {-3, -3, -3, -3}, {1, 1, 1, 1}}, 10, 10)
	wantRange(t, [][]int{{5, 0, 0, 0}, {0, 0, 0, 0}, {0, 0, 0, 0}, {0, 0, 0, 0}}, 0, 10)
	wantRange(t, [][]int{{0, 0, 0, 0}, {0, 0, 0, 0}, {0, 0, 0, 0}, {0, -5, 0, 0}}, -10, 0)
	// All worths are less than 0, and all are greater.
	wantRange(t, [][]int{{-9, -2, -2, -9}, {0, 0, 0, 0}, {0, 0, 0, 0}, {0, 0, 0, 0}}, -18, -4)
	wantRange(t, [][]int{{9, 2, 2, 9}, {0, 0, 0, 0}, {0, 0, 0, 0}, {0, 0, 0, 0}}, 4, 18)
}

func TestWorthRangesAtTheLimits(t *testing.T) {
	const most = impl.MaxFactor
	for _, n := range []int{most, -most} {
		even := []int{n, n, n, n}
		wantRange(t, [][]int{even, even, even, even}, 8*n, 8*n)
	}
	for k := range impl.SumKinds {
		f := copyRows(sumBoxByHand(k).Rows)
		for _, factors := range f {
			for i := range factors {
				factors[i] = most * (2*factors[i] - 1)
			}
		}
		wantRange(t, f, -8*most, 8*most)
	}
}

func TestWorthRanges(t *testing.T) {
	r := rand.New(rand.NewSource(101))
	for _, play := range allLists(4, 2) {
		f := playBoxByHand(2, 2, play, 1).Rows
		checkRange(t, f)
		checkRange(t, opposite(f))
	}
	for range 2000 {
		f := [][][]int{someFunctional(r, 2, 2), smallFunctional(r, 2, 2)}[r.Intn(2)]
		least, greatest := checkRange(t, f)
		wantRange(t, opposite(f), -greatest, -least)
		for range 3 {
			b := someQuietOfTwo(r)
			worth, ok := impl.WorthOf(f, b)
			if !ok || 2*worth < least*b.Whole || 2*worth > greatest*b.Whole {
				t.Fatalf("WorthRange(%v) = %d, %d, and the worth for %v is %d", f, least, greatest, b, worth)
			}
		}
	}
}

// The range of the functional of a Game ends with its QuietValue.
func TestWorthRangesOfGames(t *testing.T) {
	r := rand.New(rand.NewSource(102))
	for range 500 {
		g := someGame(r, 2, 2)
		value, one := impl.QuietValue(g)
		_, greatest, two := impl.WorthRange(mustFunctional(t, g))
		if !one || !two || greatest != value {
			t.Fatalf("the QuietValue of %v is %d, and the greatest worth %d", g, value, greatest)
		}
	}
}

func wantNoRange(t *testing.T, f [][]int) {
	t.Helper()
	if least, greatest, ok := impl.WorthRange(f); ok || least != 0 || greatest != 0 {
		t.Fatalf("WorthRange(%v) = %d, %d, %v; want 0, 0, false", f, least, greatest, ok)
	}
}

func TestFlawedFunctionalsHaveNoWorthRange(t *testing.T) {
	r := rand.New(rand.NewSource(103))
	for _, f := range flawedFunctionals(2, 2) {
		wantNoRange(t, f)
	}
	for _, size := range allSizes() {
		if size != [2]int{2, 2} {
			wantNoRange(t, noFactors(size[0]*size[1]))
			wantNoRange(t, someFunctional(r, size[0], size[1]))
		}
	}
}
