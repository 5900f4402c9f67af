package tests

import (
	"fmt"
	"math/rand"
	"slices"
	"testing"

	"loop.example/g01141/impl"
)

// l4Arguments are those of all functions of chapter 4 at once.
type l4Arguments struct {
	g, h          impl.Game
	b             impl.Box
	play, answers []int
	flips         []int
	first, second []int
	weights, odd  []int
	x, y          int
}

func gameResult(name string, g impl.Game, ok bool) layerResult {
	lists := slices.Clone(g.Wins)
	if g.Weights != nil {
		lists = append(lists, g.Weights)
	}
	return layerResult{name, fmt.Sprint(g.X, g.Y), lists, isZeroGame(g), ok}
}

func scoredResult(name string, list []int, score int, ok bool) layerResult {
	return layerResult{name, fmt.Sprint(score), [][]int{list}, len(list) == 0 && score == 0, ok}
}

func (v l4Arguments) call() []layerResult {
	var results []layerResult
	add := func(r layerResult) { results = append(results, r) }
	is := impl.IsGame(v.g)
	add(reportResult("IsGame", is, is))
	n, ok := impl.TotalWeight(v.g)
	add(numberResult("TotalWeight", ok, n))
	n, ok = impl.PlayScore(v.g, v.play)
	add(numberResult("PlayScore", ok, n))
	list, ok := impl.LostPairs(v.g, v.play)
	add(listResult("LostPairs", list, ok))
	list, n, ok = impl.BestPlay(v.g)
	add(scoredResult("BestPlay", list, n, ok))
	list, n, ok = impl.BestReply(v.g, v.answers)
	add(scoredResult("BestReply", list, n, ok))
	list, ok = impl.PerfectPlay(v.g)
	add(listResult("PerfectPlay", list, ok))
	n, ok = impl.CountBest(v.g)
	add(numberResult("CountBest", ok, n))
	rows, ok := impl.GameFunctional(v.g)
	add(rowsResult("GameFunctional", rows, ok))
	n, ok = impl.BoxScore(v.g, v.b)
	add(numberResult("BoxScore", ok, n))
	g, ok := impl.SignGame(v.x, v.y, v.weights, v.odd)
	add(gameResult("SignGame", g, ok))
	g, ok = impl.FlipGame(v.g, v.flips)
	add(gameResult("FlipGame", g, ok))
	g, ok = impl.AskGame(v.g, v.first, v.second)
	add(gameResult("AskGame", g, ok))
	is, ok = impl.SameByNames(v.g, v.h)
	add(reportResult("SameByNames", is, ok))
	g, ok = impl.TrimGame(v.g)
	add(gameResult("TrimGame", g, ok))
	n, ok = impl.BothValue(v.g, v.h)
	return append(results, numberResult("BothValue", ok, n))
}

func gameWithRoom(g impl.Game) impl.Game {
	g.Weights, g.Wins = withRoom(g.Weights), rowsWithRoom(g.Wins)
	return g
}

func (v l4Arguments) withRoom() l4Arguments {
	v.g, v.h, v.b.Rows = gameWithRoom(v.g), gameWithRoom(v.h), rowsWithRoom(v.b.Rows)
	for _, list := range []*[]int{&v.play, &v.answers, &v.flips, &v.first, &v.second, &v.weights, &v.odd} {
		*list = withRoom(*list)
	}
	return v
}

func (v l4Arguments) memory() string {
	s := fmt.Sprint(v.g.X, v.g.Y, v.h.X, v.h.Y, v.b.X, v.b.Y, v.b.Whole, v.x, v.y)
	s += memoryOfRows(v.g.Wins) + memoryOfRows(v.h.Wins) + memoryOfRows(v.b.Rows)
	return s + memoryOfLists(v.g.Weights, v.h.Weights, v.play, v.answers, v.flips, v.first, v.second, v.weights, v.odd)
}

func wildGame(r *rand.Rand, x, y int) impl.Game {
	g := someGame(r, x, y)
	switch r.Intn(12) {
	case 0:
		g.Wins = wildRows(r, g.Wins)
	case 1:
		g.X = wildInt(r)
	case 2:
		g.Y = wildInt(r)
	case 3:
		g.Weights[r.Intn(x*y)] = wildInt(r)
	case 4:
		g.Weights = wildList(r)
	}
	return g
}

// spoil changes at most one of the lists and numbers.
func (v *l4Arguments) spoil(r *rand.Rand) {
	lists := []*[]int{&v.play, &v.answers, &v.flips, &v.first, &v.second, &v.weights, &v.odd}
	switch place := r.Intn(2 * len(lists)); {
	case place < len(lists):
		*lists[place] = wildList(r)
	case place == len(lists):
		v.x = wildInt(r)
	case place == len(lists)+1:
		v.y = wildInt(r)
	}
}

func wildL4Arguments(r *rand.Rand) l4Arguments {
	x, y := 1+r.Intn(3), 1+r.Intn(3)
	v := l4Arguments{
		g: wildGame(r, x, y), h: wildGame(r, x, y), b: wildBox(r, x, y),
		play: someBits(r, x+y), answers: someBits(r, x), flips: someBits(r, x+y), first: r.Perm(x), second: r.Perm(y),
		weights: someWeights(r, x*y), odd: someBits(r, x*y), x: x, y: y,
	}
	if r.Intn(2) == 0 {
		v.h = v.g
	}
	v.spoil(r)
	return v
}

func TestLayer4IsTotalAndChangesNothing(t *testing.T) {
	r := rand.New(rand.NewSource(61))
	checkTotal(t, func() l4Arguments { return wildL4Arguments(r) })
}

// The arguments are such that a function could return a part of them as it is: nothing is flipped, asked in another order or
// trimmed, and the first answers are the best ones.
func sharedL4Arguments(x, y int) l4Arguments {
	g := gameBy(x, y, allWeights(1), always)
	return l4Arguments{
		g: g, h: copyGame(g), b: playBoxByHand(x, y, make([]int, x+y), 1),
		play: make([]int, x+y), answers: make([]int, x), flips: make([]int, x+y), first: ordersByHand(x)[0], second: ordersByHand(y)[0],
		weights: slices.Repeat([]int{1}, x*y), odd: make([]int, x*y), x: x, y: y,
	}
}

func TestLayer4SharesNoMemory(t *testing.T) {
	for _, size := range allSizes() {
		var failing []string
		if max(size[0], size[1]) > 2 {
			failing = append(failing, "BothValue")
		}
		checkSharesNothing(t, sharedL4Arguments(size[0], size[1]), failing...)
		// Now a pair is lost, so that LostPairs has something to share.
		v := sharedL4Arguments(size[0], size[1])
		v.g.Wins[0] = []int{0, 1, 1, 1}
		checkSharesNothing(t, v, failing...)
	}
}
