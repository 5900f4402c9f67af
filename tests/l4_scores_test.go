package tests

import (
	"fmt"
	"math/rand"
	"testing"

	"loop.example/g01141/impl"
)

// boxScoreByHand adds what the definition names: weights times the numbers that win.
func boxScoreByHand(g impl.Game, b impl.Box) int {
	score := 0
	for x := range g.X {
		for y := range g.Y {
			for at := range 4 {
				if winsAt(g, x, y, at/2, at%2) {
					score += weightAt(g, x, y) * numberAt(b, x, y, at/2, at%2)
				}
			}
		}
	}
	return score
}

func mustBoxScore(t *testing.T, g impl.Game, b impl.Box) int {
	t.Helper()
	score, ok := impl.BoxScore(g, b)
	wantNumber(t, fmt.Sprintf("BoxScore(%v, %v)", g, b), score, ok, boxScoreByHand(g, b))
	return score
}

func mustFunctional(t *testing.T, g impl.Game) [][]int {
	t.Helper()
	f, ok := impl.GameFunctional(g)
	want := noFactors(g.X * g.Y)
	for place, weight := range g.Weights {
		for at := range 4 {
			if g.Wins[place][at] == 1 {
				want[place][at] = weight
			}
		}
	}
	wantRows(t, fmt.Sprintf("GameFunctional(%v)", g), f, ok, want...)
	return f
}

func TestFunctionalsAndScoresByHand(t *testing.T) {
	g := game(1, 2, []int{3, 99}, []int{1, 0, 1, 1}, []int{0, 1, 0, 0})
	f, ok := impl.GameFunctional(g)
	wantRows(t, "GameFunctional", f, ok, []int{3, 0, 3, 3}, []int{0, 99, 0, 0})
	score, ok := impl.BoxScore(g, box(1, 2, 10, []int{1, 2, 3, 4}, []int{0, 5, 1, 4}))
	wantNumber(t, "BoxScore", score, ok, 3*8+99*5)
	score, ok = impl.BoxScore(equalSumsGame(1), equalSums())
	wantNumber(t, "BoxScore", score, ok, 8)
	score, ok = impl.BoxScore(equalSumsGame(impl.MaxStake), boxByTimes(equalSums(), 500))
	wantNumber(t, "BoxScore", score, ok, 4*99*1000)
}

func TestFunctionalsAndScores(t *testing.T) {
	r := rand.New(rand.NewSource(46))
	for _, size := range allSizes() {
		x, y := size[0], size[1]
		for range 100 {
			g := someGame(r, x, y)
			f := mustFunctional(t, g)
			for _, b := range []impl.Box{someBox(r, x, y), someQuietBox(r, x, y), markedBox(x, y, 1000)} {
				worth, ok := impl.WorthOf(f, b)
				wantNumber(t, fmt.Sprintf("WorthOf(%v, %v)", f, b), worth, ok, mustBoxScore(t, g, b))
			}
		}
	}
}

// The value is the LocalValue of the functional, and its BestPlays are those that CountBest counts.
func TestValuesAreLocalValues(t *testing.T) {
	r := rand.New(rand.NewSource(47))
	for _, size := range allSizes() {
		x, y := size[0], size[1]
		for range 30 {
			g := someGame(r, x, y)
			f := mustFunctional(t, g)
			best, value, one := impl.BestPlay(g)
			count, two := impl.CountBest(g)
			plays, three := impl.BestPlays(x, y, f)
			if !one || !two || !three || len(plays) != count {
				t.Fatalf("BestPlays of the functional of %v: %v, and CountBest %d", g, plays, count)
			}
			wantList(t, "the first of BestPlays", plays[0], true, best...)
			local, ok := impl.LocalValue(x, y, f)
			wantNumber(t, fmt.Sprintf("LocalValue of the functional of %v", g), local, ok, value)
		}
	}
}

func TestScoresOfPlayBoxes(t *testing.T) {
	r := rand.New(rand.NewSource(48))
	for _, size := range allSizes() {
		x, y := size[0], size[1]
		for _, play := range allLists(x+y, 2) {
			for _, whole := range []int{1, 2, 1 + r.Intn(impl.MaxWhole), impl.MaxWhole} {
				g, b := someGame(r, x, y), mustPlayBox(t, x, y, play, whole)
				score, ok := impl.PlayScore(g, play)
				wantNumber(t, "Whole times PlayScore", whole*score, ok, mustBoxScore(t, g, b))
				worth, ok := impl.WorthOf(mustFunctional(t, g), b)
				wantNumber(t, "the worth of the functional", worth, ok, whole*score)
			}
		}
	}
}

// The greatest score is 9 * 99 * 1000.
func TestGreatestScores(t *testing.T) {
	for _, size := range allSizes() {
		x, y := size[0], size[1]
		for _, b := range []impl.Box{markedBox(x, y, 1000), playBoxByHand(x, y, make([]int, x+y), 1000)} {
			score, ok := impl.BoxScore(gameBy(x, y, allWeights(impl.MaxStake), always), b)
			wantNumber(t, "BoxScore", score, ok, 99*1000*x*y)
			score, ok = impl.BoxScore(gameBy(x, y, allWeights(impl.MaxStake), never), b)
			wantNumber(t, "BoxScore", score, ok, 0)
		}
	}
}

// The score of a Box that was mixed is the sum of both scores.
func TestScoresOfMixturesAreSums(t *testing.T) {
	r := rand.New(rand.NewSource(49))
	for range 3000 {
		size := allSizes()[r.Intn(9)]
		g, a, b := someGame(r, size[0], size[1]), someBox(r, size[0], size[1]), someQuietBox(r, size[0], size[1])
		if a.Whole+b.Whole > impl.MaxWhole {
			continue
		}
		one, two, both := mustBoxScore(t, g, a), mustBoxScore(t, g, b), mustBoxScore(t, g, mustMix(t, a, b))
		if both != one+two {
			t.Fatalf("scores for %v of %v, %v and their mixture: %d, %d, %d", g, a, b, one, two, both)
		}
	}
}

// What no play has, no mixture has either; the equal sums do.
func TestNoMixtureHasMoreThanTheValue(t *testing.T) {
	r := rand.New(rand.NewSource(50))
	for _, size := range allSizes() {
		x, y := size[0], size[1]
		for range 100 {
			g := someGame(r, x, y)
			b := mixtureByHand(x, y, someShares(r, x, y, 1+r.Intn(impl.MaxWhole)))
			_, value, ok := impl.BestPlay(g)
			if score := mustBoxScore(t, g, b); !ok || score > b.Whole*value {
				t.Fatalf("BoxScore(%v, %v) = %d, and the value is %d", g, b, score, value)
			}
		}
	}
	_, value, ok := impl.BestPlay(equalSumsGame(1))
	if score := mustBoxScore(t, equalSumsGame(1), equalSums()); !ok || score <= 2*value {
		t.Errorf("the score of the equal sums is %d, and the value %d", score, value)
	}
}

func TestBoxesWithOtherQuestionsHaveNoScore(t *testing.T) {
	for _, size := range allSizes() {
		g := markedGame(size[0], size[1])
		for _, other := range allSizes() {
			score, ok := impl.BoxScore(g, playBoxByHand(other[0], other[1], make([]int, other[0]+other[1]), 1))
			if ok != (size == other) {
				t.Errorf("BoxScore for %v and %v questions = %d, %v", size, other, score, ok)
			}
			if size != other {
				wantNoNumber(t, "BoxScore", score, ok)
			}
		}
	}
}

func TestFlawedBoxesHaveNoScore(t *testing.T) {
	for _, f := range flawedBoxes() {
		score, ok := impl.BoxScore(gameBy(f.good.X, f.good.Y, allWeights(1), same), f.bad)
		wantNoNumber(t, fmt.Sprintf("BoxScore of %v", f.bad), score, ok)
	}
}
