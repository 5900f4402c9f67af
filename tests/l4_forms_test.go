package tests

import (
	"fmt"
	"math/rand"
	"slices"
	"testing"

	"loop.example/g01141/impl"
)

func wantSameValue(t *testing.T, what string, g, h impl.Game) {
	t.Helper()
	_, one, first := impl.BestPlay(g)
	_, two, second := impl.BestPlay(h)
	if !first || !second || one != two || one != valueByHand(g) {
		t.Fatalf("%s of %v is %v: values %d and %d", what, g, h, one, two)
	}
}

func TestSignGame(t *testing.T) {
	g, ok := impl.SignGame(2, 2, []int{1, 1, 1, 1}, []int{0, 0, 0, 1})
	wantGame(t, "SignGame", g, ok, equalSumsGame(1))
	g, ok = impl.SignGame(1, 3, []int{0, 99, 5}, []int{1, 0, 1})
	wantGame(t, "SignGame", g, ok, game(1, 3, []int{0, 99, 5}, []int{0, 1, 1, 0}, []int{1, 0, 0, 1}, []int{0, 1, 1, 0}))
	r := rand.New(rand.NewSource(51))
	for _, size := range allSizes() {
		x, y := size[0], size[1]
		for _, odd := range allLists(x*y, 2) {
			weights := someWeights(r, x*y)
			g, ok := impl.SignGame(x, y, weights, odd)
			wantGame(t, fmt.Sprintf("SignGame(%d, %d, %v, %v)", x, y, weights, odd), g, ok, gameBy(x, y,
				func(i, j int) int { return weights[i*y+j] },
				func(i, j, a, c int) bool { return (a == c) == (odd[i*y+j] == 0) }))
		}
	}
}

func TestSignGamesOfWrongLists(t *testing.T) {
	for _, size := range allSizes() {
		x, y := size[0], size[1]
		weights, odd := markedGame(x, y).Weights, make([]int, x*y)
		for _, list := range badBits(x * y) {
			g, ok := impl.SignGame(x, y, weights, list)
			wantNoGame(t, fmt.Sprintf("SignGame(%d, %d, %v, %v)", x, y, weights, list), g, ok)
		}
		for _, f := range flawedGames() {
			if f.bad.X == x && f.bad.Y == y && !areWeightsByHand(f.bad.Weights, x*y) {
				g, ok := impl.SignGame(x, y, f.bad.Weights, odd)
				wantNoGame(t, fmt.Sprintf("SignGame(%d, %d, %v, %v)", x, y, f.bad.Weights, odd), g, ok)
			}
		}
	}
	for _, size := range badSizes() {
		for pairs := range 17 {
			list := make([]int, pairs)
			g, ok := impl.SignGame(size[0], size[1], slices.Repeat([]int{1}, pairs), list)
			wantNoGame(t, fmt.Sprintf("SignGame for %v questions", size), g, ok)
		}
	}
}

func areWeightsByHand(list []int, size int) bool {
	return len(list) == size && slices.Min(list) >= 0 && slices.Max(list) <= 99 && slices.Max(list) > 0
}

// A play has for a FlipGame the score that its FlipPlay has.
func TestFlipGame(t *testing.T) {
	g, ok := impl.FlipGame(game(1, 2, []int{1, 2}, []int{1, 0, 0, 0}, []int{1, 1, 0, 1}), []int{0, 0, 1})
	wantGame(t, "FlipGame", g, ok, game(1, 2, []int{1, 2}, []int{1, 0, 0, 0}, []int{1, 1, 1, 0}))
	g, ok = impl.FlipGame(game(1, 2, []int{1, 2}, []int{1, 0, 0, 0}, []int{1, 1, 0, 1}), []int{1, 0, 1})
	wantGame(t, "FlipGame", g, ok, game(1, 2, []int{1, 2}, []int{0, 0, 1, 0}, []int{1, 0, 1, 1}))
	r := rand.New(rand.NewSource(52))
	for _, size := range allSizes() {
		x, y := size[0], size[1]
		for range 5 {
			g, b := someGame(r, x, y), someBox(r, x, y)
			for _, flips := range allLists(x+y, 2) {
				what := fmt.Sprintf("FlipGame(%v, %v)", g, flips)
				flipped, ok := impl.FlipGame(g, flips)
				wantGame(t, what, flipped, ok, flippedByHand(g, flips))
				back, ok := impl.FlipGame(flipped, flips)
				wantGame(t, what+" twice", back, ok, g)
				wantSameValue(t, what, g, flipped)
				wantSameNames(t, g, flipped)
				other, ok := impl.FlipAnswers(b, flips)
				if !ok || mustBoxScore(t, flipped, b) != mustBoxScore(t, g, other) {
					t.Fatalf("%s: scores of %v and %v", what, b, other)
				}
				play := someBits(r, x+y)
				turned, one := impl.FlipPlay(x, y, play, flips)
				score, two := impl.PlayScore(flipped, play)
				before, three := impl.PlayScore(g, turned)
				if !one || !two || !three || score != before {
					t.Fatalf("%s: %v has the score %d, and %v had %d", what, play, score, turned, before)
				}
			}
		}
	}
}

func TestFlipGamesOfWrongLists(t *testing.T) {
	for _, size := range allSizes() {
		g := markedGame(size[0], size[1])
		for _, list := range badBits(size[0] + size[1]) {
			h, ok := impl.FlipGame(g, list)
			wantNoGame(t, fmt.Sprintf("FlipGame(%v, %v)", g, list), h, ok)
		}
	}
}

func TestAskGame(t *testing.T) {
	g, ok := impl.AskGame(game(1, 3, []int{1, 2, 0}, []int{1, 0, 0, 0}, []int{1, 1, 0, 1}, []int{0, 0, 1, 0}), []int{0}, []int{2, 0, 1})
	wantGame(t, "AskGame", g, ok, game(1, 3, []int{0, 1, 2}, []int{0, 0, 1, 0}, []int{1, 0, 0, 0}, []int{1, 1, 0, 1}))
	g, ok = impl.AskGame(equalSumsGame(1), []int{1, 0}, []int{0, 1})
	wantGame(t, "AskGame", g, ok, game(2, 2, []int{1, 1, 1, 1}, []int{1, 0, 0, 1}, []int{0, 1, 1, 0}, []int{1, 0, 0, 1}, []int{1, 0, 0, 1}))
	r := rand.New(rand.NewSource(53))
	for _, size := range allSizes() {
		x, y := size[0], size[1]
		for _, g := range []impl.Game{markedGame(x, y), someGame(r, x, y), someGame(r, x, y)} {
			b := someBox(r, x, y)
			for _, first := range ordersByHand(x) {
				for _, second := range ordersByHand(y) {
					what := fmt.Sprintf("AskGame(%v, %v, %v)", g, first, second)
					asked, ok := impl.AskGame(g, first, second)
					wantGame(t, what, asked, ok, askedByHand(g, first, second))
					wantSameValue(t, what, g, asked)
					wantSameNames(t, g, asked)
					again, ok := impl.AskAgain(b, first, second)
					if !ok || mustBoxScore(t, asked, again) != mustBoxScore(t, g, b) {
						t.Fatalf("%s: scores of %v and %v", what, again, b)
					}
				}
			}
		}
	}
}

// All lists of up to four questions, those just out of range among them, of which only the orders are taken.
func TestAskGameTakesOrdersOnly(t *testing.T) {
	for _, size := range allSizes() {
		g := markedGame(size[0], size[1])
		for length := range 5 {
			for _, list := range allLists(length, 6) {
				for i := range list {
					list[i]--
				}
				checkAskedLists(t, g, list, ordersByHand(size[1])[0])
				checkAskedLists(t, g, ordersByHand(size[0])[0], list)
			}
		}
		for _, n := range append(extremeInts(), -1, 3, 4) {
			for questions := 1; questions <= 3; questions++ {
				for place := range questions {
					list := ordersByHand(questions)[0]
					list[place] = n
					checkAskedLists(t, g, list, ordersByHand(size[1])[0])
					checkAskedLists(t, g, ordersByHand(size[0])[0], list)
					checkAskedLists(t, g, list, list)
				}
			}
		}
		checkAskedLists(t, g, nil, nil)
		checkAskedLists(t, g, nil, ordersByHand(size[1])[0])
		checkAskedLists(t, g, ordersByHand(size[0])[0], nil)
	}
}

func checkAskedLists(t *testing.T, g impl.Game, first, second []int) {
	t.Helper()
	what := fmt.Sprintf("AskGame(%v, %v, %v)", g, first, second)
	asked, ok := impl.AskGame(g, first, second)
	if isOrderByHand(first, g.X) && isOrderByHand(second, g.Y) {
		wantGame(t, what, asked, ok, askedByHand(g, first, second))
	} else {
		wantNoGame(t, what, asked, ok)
	}
}

// trimmedByHand keeps the questions that have a pair with a weight.
func trimmedByHand(g impl.Game) impl.Game {
	var first, second []int
	for x := range g.X {
		if slices.Max(g.Weights[x*g.Y:(x+1)*g.Y]) > 0 {
			first = append(first, x)
		}
	}
	for y := range g.Y {
		most := 0
		for x := range g.X {
			most = max(most, weightAt(g, x, y))
		}
		if most > 0 {
			second = append(second, y)
		}
	}
	return askedByHand(g, first, second)
}

func checkTrimmed(t *testing.T, g impl.Game) impl.Game {
	t.Helper()
	what := fmt.Sprintf("TrimGame(%v)", g)
	trimmed, ok := impl.TrimGame(g)
	wantGame(t, what, trimmed, ok, trimmedByHand(g))
	if !impl.IsGame(trimmed) {
		t.Fatalf("%s = %v, which is no Game", what, trimmed)
	}
	wantSameValue(t, what, g, trimmed)
	again, ok := impl.TrimGame(trimmed)
	wantGame(t, what+" twice", again, ok, trimmed)
	if totalByHand(trimmed) != totalByHand(g) {
		t.Fatalf("%s = %v, with another total", what, trimmed)
	}
	return trimmed
}

func TestTrimGameByHand(t *testing.T) {
	one, two, three, four := []int{1, 0, 0, 0}, []int{0, 1, 0, 0}, []int{0, 0, 1, 0}, []int{1, 0, 1, 1}
	for _, c := range []struct{ g, want impl.Game }{
		{game(2, 2, []int{1, 0, 2, 0}, one, two, three, four), game(2, 1, []int{1, 2}, one, three)},
		{game(2, 2, []int{0, 0, 1, 2}, one, two, three, four), game(1, 2, []int{1, 2}, three, four)},
		{game(2, 2, []int{0, 5, 0, 0}, one, two, three, four), game(1, 1, []int{5}, two)},
		{game(2, 2, []int{0, 5, 1, 0}, one, two, three, four), game(2, 2, []int{0, 5, 1, 0}, one, two, three, four)},
		{game(3, 1, []int{4, 0, 6}, one, two, three), game(2, 1, []int{4, 6}, one, three)},
		{game(1, 3, []int{0, 7, 8}, one, two, three), game(1, 2, []int{7, 8}, two, three)},
		{game(1, 1, []int{99}, four), game(1, 1, []int{99}, four)},
	} {
		trimmed, ok := impl.TrimGame(c.g)
		wantGame(t, fmt.Sprintf("TrimGame(%v)", c.g), trimmed, ok, c.want)
	}
}

// All choices of pairs with a weight: some lose questions of one player, some of both, and some none.
func TestTrimGame(t *testing.T) {
	lost := map[[2]bool]int{}
	for _, size := range allSizes() {
		x, y := size[0], size[1]
		for _, heavy := range allLists(x*y, 2)[1:] {
			g := markedGame(x, y)
			for place := range g.Weights {
				g.Weights[place] *= heavy[place]
			}
			trimmed := checkTrimmed(t, g)
			lost[[2]bool{trimmed.X < x, trimmed.Y < y}]++
		}
	}
	r := rand.New(rand.NewSource(54))
	for range 1000 {
		size := allSizes()[r.Intn(9)]
		checkTrimmed(t, someGame(r, size[0], size[1]))
	}
	if len(lost) != 4 {
		t.Errorf("Games that lost questions of the first and of the second player: %v", lost)
	}
}
