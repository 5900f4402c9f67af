package tests

import (
	"math/rand"
	"slices"
	"testing"

	"loop.example/g01141/impl"
)

// flawedGame is no Game. A good one of as many questions stands beside it, if there is such a Game.
type flawedGame struct {
	bad, good impl.Game
}

func flawedGames() []flawedGame {
	flawed := []flawedGame{{impl.Game{}, markedGame(1, 1)}}
	for _, size := range badSizes() {
		flawed = append(flawed, gamesOfBadSize(size[0], size[1])...)
	}
	for _, size := range allSizes() {
		good := markedGame(size[0], size[1])
		for _, bad := range slices.Concat(flawedNumbersOfPairs(good), flawedWeights(good), flawedWins(good)) {
			flawed = append(flawed, flawedGame{bad, good})
		}
	}
	return flawed
}

// gamesOfBadSize are right in all but the size: as many pairs as the product tells, where that is possible.
func gamesOfBadSize(x, y int) []flawedGame {
	var flawed []flawedGame
	for _, pairs := range []int{0, 1, 4, 9, x * y} {
		if pairs < 0 || pairs > 1000 {
			continue
		}
		g := impl.Game{X: x, Y: y}
		for range pairs {
			g.Weights, g.Wins = append(g.Weights, 1), append(g.Wins, []int{1, 0, 0, 1})
		}
		flawed = append(flawed, flawedGame{g, equalSumsGame(1)})
	}
	return flawed
}

func flawedNumbersOfPairs(good impl.Game) []impl.Game {
	last := len(good.Weights) - 1
	changes := []func(g *impl.Game){
		func(g *impl.Game) { g.Weights = nil },
		func(g *impl.Game) { g.Weights = g.Weights[:last] },
		func(g *impl.Game) { g.Weights = append(g.Weights, 1) },
		func(g *impl.Game) { g.Weights = append(g.Weights, 0) },
		func(g *impl.Game) { g.Wins = nil },
		func(g *impl.Game) { g.Wins = g.Wins[:last] },
		func(g *impl.Game) { g.Wins = append(g.Wins, []int{1, 0, 0, 1}) },
		func(g *impl.Game) { g.Wins = make([][]int, last+1) },
		func(g *impl.Game) { g.Weights, g.Wins = g.Weights[:last], g.Wins[:last] },
		func(g *impl.Game) { g.Weights, g.Wins = append(g.Weights, 1), append(g.Wins, []int{1, 0, 0, 1}) },
		func(g *impl.Game) { g.Weights, g.Wins = nil, nil },
		func(g *impl.Game) { g.Weights = make([]int, last+1) },
	}
	var flawed []impl.Game
	for _, change := range changes {
		bad := copyGame(good)
		change(&bad)
		flawed = append(flawed, bad)
	}
	return flawed
}

// In some of them, the flawed weight is the only one that is not 0, or two of them have a small sum.
func flawedWeights(good impl.Game) []impl.Game {
	var flawed []impl.Game
	for place := range good.Weights {
		for _, n := range append(extremeInts(), -1, -2, -99, -100, impl.MaxStake+1, impl.MaxStake+2, 1000) {
			beside, alone, two := copyGame(good), copyGame(good), copyGame(good)
			beside.Weights[place] = n
			alone.Weights = make([]int, len(good.Weights))
			alone.Weights[place] = n
			flawed = append(flawed, beside, alone)
			if place > 0 {
				two.Weights[place], two.Weights[0] = n, 5-n
				flawed = append(flawed, two)
			}
		}
	}
	return flawed
}

// Wins must be valid also at pairs with the weight 0.
func flawedWins(good impl.Game) []impl.Game {
	var flawed []impl.Game
	for place := range good.Wins {
		rows := [][]int{nil, {}, {1}, {1, 0}, {1, 0, 0}, {1, 0, 0, 1, 0}, make([]int, 8), make([]int, 100)}
		for at := range 4 {
			for _, n := range append(extremeInts(), -1, 2, 3, 99) {
				row := slices.Clone(good.Wins[place])
				row[at] = n
				rows = append(rows, row)
			}
		}
		for _, row := range rows {
			bad, light := copyGame(good), copyGame(good)
			bad.Wins[place], light.Wins[place] = row, row
			if len(good.Weights) > 1 {
				light.Weights[place] = 0
			}
			flawed = append(flawed, bad, light)
		}
	}
	return flawed
}

func TestFlawedGamesAreNone(t *testing.T) {
	for _, f := range flawedGames() {
		if impl.IsGame(f.bad) {
			t.Fatalf("IsGame(%v)", f.bad)
		}
		if !impl.IsGame(f.good) {
			t.Fatalf("not IsGame(%v)", f.good)
		}
	}
}

func TestGamesOfEachSizeAndWeight(t *testing.T) {
	r := rand.New(rand.NewSource(41))
	for _, size := range allSizes() {
		x, y := size[0], size[1]
		for range 200 {
			if g := someGame(r, x, y); !impl.IsGame(g) {
				t.Fatalf("not IsGame(%v)", g)
			}
		}
		for weight := 0; weight <= impl.MaxStake; weight++ {
			if g := gameBy(x, y, allWeights(weight), same); impl.IsGame(g) != (weight > 0) {
				t.Fatalf("IsGame(%v) is not %v", g, weight > 0)
			}
		}
		for place := range x * y {
			g := gameBy(x, y, allWeights(0), never)
			for _, weight := range []int{1, 2, 98, impl.MaxStake} {
				g.Weights[place] = weight
				if !impl.IsGame(g) {
					t.Fatalf("not IsGame(%v)", g)
				}
			}
		}
	}
}

func TestEachSmallListOfWinsIsValidExactlyIfItHasBits(t *testing.T) {
	for _, row := range allLists(4, 4) {
		for i := range row {
			row[i]--
		}
		want := slices.Min(row) >= 0 && slices.Max(row) <= 1
		if impl.IsGame(game(1, 1, []int{1}, row)) != want || impl.IsGame(game(2, 1, []int{1, 0}, []int{0, 0, 0, 0}, row)) != want {
			t.Errorf("IsGame with the Wins %v is not %v", row, want)
		}
	}
}

// ofGame calls a function for a Game that is not valid, beside other arguments that fit it as far as possible, and tells whether
// it was successful and whether all other results were zero.
type ofGame func(bad, good impl.Game) (ok bool, zero bool)

func callsOfGames() map[string]ofGame {
	return map[string]ofGame{
		"IsGame":      func(g, _ impl.Game) (bool, bool) { return impl.IsGame(g), true },
		"TotalWeight": func(g, _ impl.Game) (bool, bool) { n, ok := impl.TotalWeight(g); return ok, n == 0 },
		"PlayScore": func(g, good impl.Game) (bool, bool) {
			n, ok := impl.PlayScore(g, make([]int, good.X+good.Y))
			return ok, n == 0
		},
		"LostPairs": func(g, good impl.Game) (bool, bool) {
			list, ok := impl.LostPairs(g, make([]int, good.X+good.Y))
			return ok, len(list) == 0
		},
		"BestPlay": func(g, _ impl.Game) (bool, bool) {
			play, n, ok := impl.BestPlay(g)
			return ok, len(play) == 0 && n == 0
		},
		"BestReply": func(g, good impl.Game) (bool, bool) {
			list, n, ok := impl.BestReply(g, make([]int, good.X))
			return ok, len(list) == 0 && n == 0
		},
		"PerfectPlay":    func(g, _ impl.Game) (bool, bool) { play, ok := impl.PerfectPlay(g); return ok, len(play) == 0 },
		"CountBest":      func(g, _ impl.Game) (bool, bool) { n, ok := impl.CountBest(g); return ok, n == 0 },
		"GameFunctional": func(g, _ impl.Game) (bool, bool) { f, ok := impl.GameFunctional(g); return ok, len(f) == 0 },
		"BoxScore": func(g, good impl.Game) (bool, bool) {
			n, ok := impl.BoxScore(g, playBoxByHand(good.X, good.Y, make([]int, good.X+good.Y), 1))
			return ok, n == 0
		},
		"FlipGame": func(g, good impl.Game) (bool, bool) {
			h, ok := impl.FlipGame(g, make([]int, good.X+good.Y))
			return ok, isZeroGame(h)
		},
		"AskGame": func(g, good impl.Game) (bool, bool) {
			h, ok := impl.AskGame(g, ordersByHand(good.X)[0], ordersByHand(good.Y)[0])
			return ok, isZeroGame(h)
		},
		"SameByNames, 1st": func(g, good impl.Game) (bool, bool) { is, ok := impl.SameByNames(g, good); return ok, !is },
		"SameByNames, 2nd": func(g, good impl.Game) (bool, bool) { is, ok := impl.SameByNames(good, g); return ok, !is },
		"SameByNames":      func(g, _ impl.Game) (bool, bool) { is, ok := impl.SameByNames(g, g); return ok, !is },
		"TrimGame":         func(g, _ impl.Game) (bool, bool) { h, ok := impl.TrimGame(g); return ok, isZeroGame(h) },
		"BothValue, 1st":   func(g, _ impl.Game) (bool, bool) { n, ok := impl.BothValue(g, equalSumsGame(1)); return ok, n == 0 },
		"BothValue, 2nd":   func(g, _ impl.Game) (bool, bool) { n, ok := impl.BothValue(equalSumsGame(1), g); return ok, n == 0 },
		"BothValue":        func(g, _ impl.Game) (bool, bool) { n, ok := impl.BothValue(g, g); return ok, n == 0 },
	}
}

func TestNoFunctionTakesAFlawedGame(t *testing.T) {
	for name, call := range callsOfGames() {
		for _, f := range flawedGames() {
			if ok, zero := call(f.bad, f.good); ok || !zero {
				t.Fatalf("%s of %v: %v, zero results %v", name, f.bad, ok, zero)
			}
		}
		if ok, _ := call(gameBy(2, 2, allWeights(1), same), equalSumsGame(1)); !ok {
			t.Errorf("%s of a Game fails", name)
		}
	}
}

// The sizes are extreme, and the lists are those of Games that are valid but for their size.
func TestNoFunctionTakesAnExtremeSize(t *testing.T) {
	for _, n := range append(extremeInts(), -4, -3, -2, -1, 0, 4, 5) {
		for _, size := range allSizes() {
			one, two, three := markedGame(size[0], size[1]), markedGame(size[0], size[1]), markedGame(size[0], size[1])
			one.X, two.Y, three.X, three.Y = n, n, n, n
			for _, bad := range []impl.Game{one, two, three} {
				for name, call := range callsOfGames() {
					if ok, zero := call(bad, markedGame(size[0], size[1])); ok || !zero {
						t.Fatalf("%s of %v: %v, zero results %v", name, bad, ok, zero)
					}
				}
			}
		}
	}
}
