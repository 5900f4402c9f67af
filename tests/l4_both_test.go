package tests

import (
	"fmt"
	"math/rand"
	"testing"

	"loop.example/g01141/impl"
)

// smallSizes have at most two questions for each player.
func smallSizes() [][2]int { return [][2]int{{1, 1}, {1, 2}, {2, 1}, {2, 2}} }

// bothWeight is what is won at once for the questions x and y of g, and u and v of h, with two answers of each player as the digits
// of a number in 0..3.
func bothWeight(g, h impl.Game, x, u, y, v, first, second int) int {
	if winsAt(g, x, y, first/2, second/2) && winsAt(h, u, v, first%2, second%2) {
		return weightAt(g, x, y) * weightAt(h, u, v)
	}
	return 0
}

// bothValueByHand tries all answers of both players to all of their pairs of questions.
func bothValueByHand(g, h impl.Game) int {
	// Weights by both questions of the first player, and of the second one, and by their answers.
	weights := make([][][4][4]int, g.X*h.X)
	for i := range weights {
		weights[i] = make([][4][4]int, g.Y*h.Y)
		for j := range weights[i] {
			for at := range 16 {
				weights[i][j][at/4][at%4] = bothWeight(g, h, i/h.X, i%h.X, j/h.Y, j%h.Y, at/4, at%4)
			}
		}
	}
	value := 0
	seconds := allLists(g.Y*h.Y, 4)
	for _, first := range allLists(g.X*h.X, 4) {
		for _, second := range seconds {
			sum := 0
			for i, a := range first {
				for j, c := range second {
					sum += weights[i][j][a][c]
				}
			}
			value = max(value, sum)
		}
	}
	return value
}

func checkBoth(t *testing.T, g, h impl.Game) int {
	t.Helper()
	value, ok := impl.BothValue(g, h)
	wantNumber(t, fmt.Sprintf("BothValue(%v, %v)", g, h), value, ok, bothValueByHand(g, h))
	return value
}

// checkBothBounds reports whether the value of both is neither the product of both values nor that of a value and a total.
func checkBothBounds(t *testing.T, g, h impl.Game) bool {
	t.Helper()
	both, ok := impl.BothValue(g, h)
	_, one, first := impl.BestPlay(g)
	_, two, second := impl.BestPlay(h)
	most := min(one*totalByHand(h), totalByHand(g)*two)
	if !ok || !first || !second || both < one*two || both > most {
		t.Fatalf("BothValue(%v, %v) = %d, %v; values %d and %d", g, h, both, ok, one, two)
	}
	turned, ok := impl.BothValue(h, g)
	wantNumber(t, fmt.Sprintf("BothValue(%v, %v)", h, g), turned, ok, both)
	return both > one*two && both < most
}

// Ten of the sixteen pairs can be won, where answering for each Game alone wins nine.
func TestBothValueOfEqualSums(t *testing.T) {
	both, ok := impl.BothValue(equalSumsGame(1), equalSumsGame(1))
	wantNumber(t, "BothValue", both, ok, 10)
	both, ok = impl.BothValue(equalSumsGame(impl.MaxStake), equalSumsGame(impl.MaxStake))
	wantNumber(t, "BothValue", both, ok, 10*99*99)
	both, ok = impl.BothValue(equalSumsGame(2), equalSumsGame(3))
	wantNumber(t, "BothValue", both, ok, 60)
	if !checkBothBounds(t, equalSumsGame(1), equalSumsGame(1)) {
		t.Errorf("the bounds of BothValue are reached")
	}
}

// With one question each, the players win both Games if and only if they can win each of them.
func TestBothValueOfOneQuestionEach(t *testing.T) {
	for _, one := range allLists(4, 2) {
		for _, two := range allLists(4, 2) {
			g, h := game(1, 1, []int{3}, one), game(1, 1, []int{impl.MaxStake}, two)
			both, ok := impl.BothValue(g, h)
			wantNumber(t, fmt.Sprintf("BothValue(%v, %v)", g, h), both, ok, valueByHand(g)*valueByHand(h))
			if both != 0 && both != 3*99 {
				t.Errorf("BothValue(%v, %v) = %d", g, h, both)
			}
		}
	}
}

func TestBothValueOfAllSizes(t *testing.T) {
	r := rand.New(rand.NewSource(58))
	for _, size := range smallSizes() {
		for _, other := range smallSizes() {
			for range 6 {
				checkBoth(t, someGame(r, size[0], size[1]), someGame(r, other[0], other[1]))
			}
			g, h := markedGame(size[0], size[1]), markedGame(other[0], other[1])
			checkBoth(t, g, h)
			checkBoth(t, g, gameBy(other[0], other[1], markedWeights, same))
		}
	}
	for range 20 {
		checkBoth(t, someGame(r, 2, 2), someGame(r, 2, 2))
	}
}

// Two Games at once have at least the product of both values, and at most that of one value and the other total.
func TestBoundsOfBothValue(t *testing.T) {
	r := rand.New(rand.NewSource(59))
	between := 0
	for range 500 {
		size, other := smallSizes()[r.Intn(4)], smallSizes()[r.Intn(4)]
		checkBothBounds(t, someGame(r, size[0], size[1]), someGame(r, other[0], other[1]))
		if checkBothBounds(t, someSignGame(t, r, 2, 2), someSignGame(t, r, 2, 2)) {
			between++
		}
	}
	if between < 5 {
		t.Errorf("only %d times BothValue was between its bounds", between)
	}
}

func someSignGame(t *testing.T, r *rand.Rand, x, y int) impl.Game {
	t.Helper()
	weights := make([]int, x*y)
	for i := range weights {
		weights[i] = 1 + r.Intn(3)
	}
	g, ok := impl.SignGame(x, y, weights, someBits(r, x*y))
	if !ok {
		t.Fatalf("SignGame with %v fails", weights)
	}
	return g
}

// Beside a Game that is always won, the other one is as alone; beside one that is never won, nothing is.
func TestBothValueOfGamesThatAreAlwaysOrNeverWon(t *testing.T) {
	r := rand.New(rand.NewSource(60))
	for _, size := range smallSizes() {
		for _, other := range smallSizes() {
			g := someGame(r, size[0], size[1])
			won := gameBy(other[0], other[1], allWeights(impl.MaxStake), always)
			both, ok := impl.BothValue(g, won)
			wantNumber(t, fmt.Sprintf("BothValue(%v, %v)", g, won), both, ok, valueByHand(g)*totalByHand(won))
			both, ok = impl.BothValue(won, g)
			wantNumber(t, fmt.Sprintf("BothValue(%v, %v)", won, g), both, ok, valueByHand(g)*totalByHand(won))
			both, ok = impl.BothValue(g, gameBy(other[0], other[1], allWeights(1), never))
			wantNumber(t, fmt.Sprintf("BothValue of %v and a Game that is never won", g), both, ok, 0)
		}
	}
}

// A single pair of each Game has a weight.
func TestBothValueOfSinglePairs(t *testing.T) {
	for _, size := range smallSizes() {
		for _, other := range smallSizes() {
			for place := range size[0] * size[1] {
				g, h := gameBy(size[0], size[1], allWeights(0), same), gameBy(other[0], other[1], allWeights(0), same)
				last := len(h.Weights) - 1
				g.Weights[place], h.Weights[last] = 5, 7
				both, ok := impl.BothValue(g, h)
				wantNumber(t, fmt.Sprintf("BothValue(%v, %v)", g, h), both, ok, 35)
				g.Wins[place] = make([]int, 4)
				both, ok = impl.BothValue(g, h)
				wantNumber(t, fmt.Sprintf("BothValue(%v, %v)", g, h), both, ok, 0)
			}
		}
	}
}

func TestBothValueOfThreeQuestions(t *testing.T) {
	for _, size := range allSizes() {
		for _, other := range allSizes() {
			g, h := gameBy(size[0], size[1], allWeights(1), same), gameBy(other[0], other[1], allWeights(1), same)
			both, ok := impl.BothValue(g, h)
			if max(size[0], size[1], other[0], other[1]) == 3 {
				wantNoNumber(t, fmt.Sprintf("BothValue for %v and %v questions", size, other), both, ok)
			} else {
				wantNumber(t, fmt.Sprintf("BothValue for %v and %v questions", size, other), both, ok, len(g.Weights)*len(h.Weights))
			}
		}
	}
}
