package tests

import (
	"fmt"
	"math/rand"
	"testing"

	"loop.example/g01141/impl"
)

func wantNames(t *testing.T, g, h impl.Game, want bool) {
	t.Helper()
	is, ok := impl.SameByNames(g, h)
	wantReport(t, fmt.Sprintf("SameByNames(%v, %v)", g, h), is, ok, want)
	is, ok = impl.SameByNames(h, g)
	wantReport(t, fmt.Sprintf("SameByNames(%v, %v)", h, g), is, ok, want)
}

func wantSameNames(t *testing.T, g, h impl.Game) {
	t.Helper()
	wantNames(t, g, h, true)
}

// becomes reports whether some of the orders and flips, or all of them, turn g into h.
func becomes(g, h impl.Game, withOrders, withFlips bool) bool {
	firsts, seconds, flips := ordersByHand(g.X), ordersByHand(g.Y), allLists(g.X+g.Y, 2)
	if !withOrders {
		firsts, seconds = firsts[:1], seconds[:1]
	}
	if !withFlips {
		flips = flips[:1]
	}
	for _, first := range firsts {
		for _, second := range seconds {
			for _, flip := range flips {
				if sameGame(flippedByHand(askedByHand(g, first, second), flip), h) {
					return true
				}
			}
		}
	}
	return false
}

func someForm(r *rand.Rand, g impl.Game) impl.Game {
	firsts, seconds := ordersByHand(g.X), ordersByHand(g.Y)
	return flippedByHand(askedByHand(g, firsts[r.Intn(len(firsts))], seconds[r.Intn(len(seconds))]), someBits(r, g.X+g.Y))
}

func TestNamesByHand(t *testing.T) {
	sums := equalSumsGame(1)
	// The pair that is won by different answers can be any one, or three of them can be so.
	for _, odd := range allLists(4, 2) {
		g, ok := impl.SignGame(2, 2, []int{1, 1, 1, 1}, odd)
		if !ok {
			t.Fatalf("SignGame with %v fails", odd)
		}
		wantNames(t, sums, g, (odd[0]+odd[1]+odd[2]+odd[3])%2 == 1)
	}
	// The players are not exchanged, and the weights stay with their pairs.
	g := gameBy(2, 2, markedWeights, same)
	for _, weights := range [][]int{{1, 11, 4, 14}, {11, 1, 14, 4}, {4, 14, 1, 11}, {14, 4, 11, 1}} {
		h := copyGame(g)
		h.Weights = weights
		wantNames(t, g, h, true)
	}
	for _, weights := range [][]int{{1, 4, 11, 14}, {1, 11, 14, 4}, {11, 1, 4, 14}, {1, 14, 4, 11}, {1, 11, 4, 13}, {2, 22, 8, 28}} {
		h := copyGame(g)
		h.Weights = weights
		wantNames(t, g, h, false)
	}
}

// Wins of pairs with the weight 0 are a part of the Game, too.
func TestNamesOfPairsWithTheWeight0(t *testing.T) {
	one, two := []int{1, 0, 0, 0}, []int{1, 1, 0, 1}
	g := game(1, 2, []int{1, 0}, one, two)
	wantNames(t, g, game(1, 2, []int{1, 0}, one, two), true)
	wantNames(t, g, game(1, 2, []int{0, 1}, two, one), true)
	wantNames(t, g, game(1, 2, []int{1, 0}, one, []int{1, 1, 1, 0}), true)
	wantNames(t, g, game(1, 2, []int{1, 0}, one, one), false)
	wantNames(t, g, game(1, 2, []int{1, 0}, one, []int{0, 1, 1, 1}), false)
	wantNames(t, g, game(1, 2, []int{0, 1}, one, two), false)
}

func TestNamesOfAllSmallGames(t *testing.T) {
	var games []impl.Game
	for _, bits := range allLists(4, 2) {
		games = append(games, game(1, 1, []int{1}, bits), game(1, 1, []int{2}, bits))
	}
	for _, g := range games {
		for _, h := range games {
			wantNames(t, g, h, becomes(g, h, true, true))
		}
	}
	for _, size := range [][2]int{{1, 2}, {2, 1}} {
		games = nil
		for _, wins := range allLists(8, 2) {
			for _, weights := range [][]int{{1, 1}, {1, 0}, {0, 1}} {
				games = append(games, game(size[0], size[1], weights, wins[:4], wins[4:]))
			}
		}
		r := rand.New(rand.NewSource(55))
		for range 20000 {
			g, h := games[r.Intn(len(games))], games[r.Intn(len(games))]
			is, ok := impl.SameByNames(g, h)
			wantReport(t, fmt.Sprintf("SameByNames(%v, %v)", g, h), is, ok, becomes(g, h, true, true))
		}
	}
}

// formCounts counts how a form comes from its Game: by an order or flips alone, or by nothing but both.
type formCounts struct{ byOrder, byFlips, byBoth int }

func (c *formCounts) add(g, h impl.Game) {
	order, flips := becomes(g, h, true, false), becomes(g, h, false, true)
	switch {
	case order && !flips:
		c.byOrder++
	case flips && !order:
		c.byFlips++
	case !order && !flips:
		c.byBoth++
	}
}

// A Game is the same by names as each of its forms, and mostly not as one with another number.
func TestNamesOfForms(t *testing.T) {
	r := rand.New(rand.NewSource(56))
	var counts formCounts
	others := 0
	for range 400 {
		size := allSizes()[r.Intn(9)]
		g := someGame(r, size[0], size[1])
		h := someForm(r, g)
		wantNames(t, g, h, true)
		wantSameValue(t, "a form", g, h)
		counts.add(g, h)
		place := r.Intn(len(h.Wins))
		if r.Intn(2) == 0 {
			h.Wins[place][r.Intn(4)] ^= 1
		} else {
			h.Weights[place] = 1 + r.Intn(impl.MaxStake)
		}
		same := becomes(g, h, true, true)
		wantNames(t, g, h, same)
		if !same {
			others++
		}
	}
	if min(counts.byOrder, counts.byFlips, counts.byBoth) < 20 || others < 200 {
		t.Errorf("forms %v, and %d other Games", counts, others)
	}
}

// The Wins are as many, and the weights the same, but some are at other places.
func TestNamesOfGamesWithOtherPlaces(t *testing.T) {
	r := rand.New(rand.NewSource(57))
	same, others := 0, 0
	for range 400 {
		size := allSizes()[1+r.Intn(8)]
		g := someGame(r, size[0], size[1])
		h := someForm(r, g)
		i, j := r.Intn(len(h.Wins)), r.Intn(len(h.Wins))
		if r.Intn(2) == 0 {
			h.Wins[i], h.Wins[j] = h.Wins[j], h.Wins[i]
		} else {
			h.Weights[i], h.Weights[j] = h.Weights[j], h.Weights[i]
		}
		want := becomes(g, h, true, true)
		wantNames(t, g, h, want)
		if want {
			same++
		} else {
			others++
		}
	}
	if same < 20 || others < 20 {
		t.Errorf("%d Games were the same by names, and %d were not", same, others)
	}
}

// With three questions each, every single order and every single flip is found.
func TestNamesByEachOrderAndEachFlip(t *testing.T) {
	for _, size := range allSizes() {
		g := markedGame(size[0], size[1])
		for _, first := range ordersByHand(g.X) {
			for _, second := range ordersByHand(g.Y) {
				wantNames(t, g, askedByHand(g, first, second), true)
				wantNames(t, g, flippedByHand(askedByHand(g, first, second), allLists(g.X+g.Y, 2)[1<<(g.X+g.Y)-1]), true)
			}
		}
		for _, flips := range allLists(g.X+g.Y, 2) {
			wantNames(t, g, flippedByHand(g, flips), true)
		}
	}
}

func TestGamesWithOtherQuestionsHaveNoNamesInCommon(t *testing.T) {
	for _, size := range allSizes() {
		for _, other := range allSizes() {
			g, h := gameBy(size[0], size[1], allWeights(1), same), gameBy(other[0], other[1], allWeights(1), same)
			is, ok := impl.SameByNames(g, h)
			if size == other {
				wantReport(t, fmt.Sprintf("SameByNames(%v, %v)", g, h), is, ok, true)
			} else {
				wantNoReport(t, fmt.Sprintf("SameByNames(%v, %v)", g, h), is, ok)
			}
		}
	}
}
