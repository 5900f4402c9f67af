package tests

import (
	"math/rand"
	"slices"
	"testing"

	"loop.example/g01141/impl"
)

func game(x, y int, weights []int, wins ...[]int) impl.Game {
	return impl.Game{X: x, Y: y, Weights: weights, Wins: wins}
}

// gameBy makes a Game of weights that are told by questions, and of Wins that are told by questions and answers.
func gameBy(x, y int, weight func(x, y int) int, wins func(x, y, a, c int) bool) impl.Game {
	g := impl.Game{X: x, Y: y}
	for i := range x {
		for j := range y {
			row := make([]int, 4)
			for at := range row {
				if wins(i, j, at/2, at%2) {
					row[at] = 1
				}
			}
			g.Weights, g.Wins = append(g.Weights, weight(i, j)), append(g.Wins, row)
		}
	}
	return g
}

func always(int, int, int, int) bool { return true }
func never(int, int, int, int) bool  { return false }

// same is won by equal answers, and equalSumsGame by different ones if both questions are 1.
func same(_, _, a, c int) bool { return a == c }

func equalSumsGame(weight int) impl.Game {
	return gameBy(2, 2, allWeights(weight), func(x, y, a, c int) bool { return (a+c)%2 == x*y })
}

func allWeights(n int) func(x, y int) int { return func(int, int) int { return n } }

// markedWeights has another one for each pair, so that pairs can be told apart.
func markedWeights(x, y int) int { return 1 + 3*x + 10*y }

// markedGame has other Wins for each pair, too; those of x and y have the number 1 + 3 x + y as binary digits.
func markedGame(x, y int) impl.Game {
	return gameBy(x, y, markedWeights, func(x, y, a, c int) bool { return (1+3*x+y)>>(2*a+c)&1 == 1 })
}

func winsAt(g impl.Game, x, y, a, c int) bool { return g.Wins[x*g.Y+y][2*a+c] == 1 }

func weightAt(g impl.Game, x, y int) int { return g.Weights[x*g.Y+y] }

func copyGame(g impl.Game) impl.Game {
	g.Weights, g.Wins = slices.Clone(g.Weights), copyRows(g.Wins)
	return g
}

func sameGame(g, h impl.Game) bool {
	return g.X == h.X && g.Y == h.Y && slices.Equal(g.Weights, h.Weights) && sameRows(g.Wins, h.Wins)
}

func isZeroGame(g impl.Game) bool {
	return g.X == 0 && g.Y == 0 && len(g.Weights) == 0 && len(g.Wins) == 0
}

func wantGame(t *testing.T, what string, got impl.Game, ok bool, want impl.Game) {
	t.Helper()
	if !ok || !sameGame(got, want) {
		t.Fatalf("%s = %v, %v; want %v, true", what, got, ok, want)
	}
}

func wantNoGame(t *testing.T, what string, got impl.Game, ok bool) {
	t.Helper()
	if ok || !isZeroGame(got) {
		t.Fatalf("%s = %v, %v; want no Game, false", what, got, ok)
	}
}

// someWeights are small or of any size, with and without many of 0 and of MaxStake, but never all 0.
func someWeights(r *rand.Rand, size int) []int {
	list := make([]int, size)
	kind := r.Intn(4)
	for i := range list {
		list[i] = [4]int{r.Intn(3), r.Intn(100), []int{0, 0, 1, 99}[r.Intn(4)], 1}[kind]
	}
	if slices.Max(list) == 0 {
		list[r.Intn(size)] = 1 + r.Intn(impl.MaxStake)
	}
	return list
}

// someWins are those of any pairs, of sums that are even or odd, of pairs that nearly always win, or of those that one play wins.
func someWins(r *rand.Rand, x, y int) [][]int {
	kind, play := r.Intn(4), someBits(r, x+y)
	var wins [][]int
	for i := range x * y {
		row := someBits(r, 4)
		odd := r.Intn(2)
		switch kind {
		case 0:
			row = []int{1 - odd, odd, odd, 1 - odd}
		case 1:
			row = [][]int{{1, 1, 1, 1}, {0, 0, 0, 0}, {1, 1, 1, 0}, {0, 1, 1, 1}}[r.Intn(4)]
		case 2:
			row[2*play[i/y]+play[x+i%y]] = 1
		}
		wins = append(wins, row)
	}
	return wins
}

func someGame(r *rand.Rand, x, y int) impl.Game {
	return game(x, y, someWeights(r, x*y), someWins(r, x, y)...)
}

func scoreByHand(g impl.Game, play []int) int {
	score := 0
	for x := range g.X {
		for y := range g.Y {
			if winsAt(g, x, y, play[x], play[g.X+y]) {
				score += weightAt(g, x, y)
			}
		}
	}
	return score
}

func totalByHand(g impl.Game) int {
	total := 0
	for _, weight := range g.Weights {
		total += weight
	}
	return total
}

// bestOfGame has the value and all plays that have it, in order.
func bestOfGame(g impl.Game) (int, [][]int) {
	value := 0
	var best [][]int
	for _, play := range allLists(g.X+g.Y, 2) {
		score := scoreByHand(g, play)
		if score > value {
			value, best = score, nil
		}
		if score == value {
			best = append(best, play)
		}
	}
	return value, best
}

func valueByHand(g impl.Game) int {
	value, _ := bestOfGame(g)
	return value
}

// ordersByHand has all lists of each of so many questions once, in lexicographic order.
func ordersByHand(questions int) [][]int {
	var orders [][]int
	for _, list := range allLists(questions, questions) {
		if isOrderByHand(list, questions) {
			orders = append(orders, list)
		}
	}
	return orders
}

func isOrderByHand(list []int, questions int) bool {
	for question := range questions {
		if !slices.Contains(list, question) {
			return false
		}
	}
	return len(list) == questions
}

func askedByHand(g impl.Game, first, second []int) impl.Game {
	return gameBy(len(first), len(second),
		func(x, y int) int { return weightAt(g, first[x], second[y]) },
		func(x, y, a, c int) bool { return winsAt(g, first[x], second[y], a, c) })
}

func flippedByHand(g impl.Game, flips []int) impl.Game {
	return gameBy(g.X, g.Y,
		func(x, y int) int { return weightAt(g, x, y) },
		func(x, y, a, c int) bool { return winsAt(g, x, y, (a+flips[x])%2, (c+flips[g.X+y])%2) })
}
