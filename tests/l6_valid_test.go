package tests

import (
	"testing"

	"loop.example/g01141/impl"
)

// callsOfLayer6 calls the functions for Boxes; those that take loud ones, too, are in callsOfLoudBoxes.
func callsOfLayer6() map[string]ofBox {
	return map[string]ofBox{
		"IsExtreme": func(b, _ impl.Box) (bool, bool) { is, ok := impl.IsExtreme(b); return ok, !is },
		"PartOf":    func(b, _ impl.Box) (bool, bool) { k, share, ok := impl.PartOf(b); return ok, k == 0 && share == 0 },
		"RestOf":    func(b, _ impl.Box) (bool, bool) { c, ok := impl.RestOf(b); return ok, isZeroBox(c) },
		"JoinPart":  func(b, _ impl.Box) (bool, bool) { c, ok := impl.JoinPart(b, 1, 1); return ok, isZeroBox(c) },
		"JoinPart with the share 0": func(b, _ impl.Box) (bool, bool) {
			c, ok := impl.JoinPart(b, 0, 0)
			return ok, isZeroBox(c)
		},
		"IsEvenBox": func(b, _ impl.Box) (bool, bool) { is, ok := impl.IsEvenBox(b); return ok, !is },
	}
}

func callsOfLoudBoxes() map[string]ofBox {
	return map[string]ofBox{
		"EightSums": func(b, _ impl.Box) (bool, bool) { list, ok := impl.EightSums(b); return ok, len(list) == 0 },
		"EvenOut":   func(b, _ impl.Box) (bool, bool) { c, ok := impl.EvenOut(b); return ok, isZeroBox(c) },
	}
}

func callsOfGamesForQuiet() map[string]ofGame {
	return map[string]ofGame{
		"QuietValue": func(g, _ impl.Game) (bool, bool) { n, ok := impl.QuietValue(g); return ok, n == 0 },
		"QuietBest":  func(g, _ impl.Game) (bool, bool) { n, ok := impl.QuietBest(g); return ok, n == 0 },
	}
}

func wantOfBox(t *testing.T, calls map[string]ofBox, b impl.Box, want bool) {
	t.Helper()
	for name, call := range calls {
		if ok, zero := call(b, b); ok != want || !ok && !zero {
			t.Errorf("%s of %v: %v, zero results %v", name, b, ok, zero)
		}
	}
}

func TestNoFunctionOfLayer6TakesAFlawedBox(t *testing.T) {
	checkFlawedBoxesFail(t, callsOfLayer6())
	checkFlawedBoxesFail(t, callsOfLoudBoxes())
	for _, play := range allLists(4, 2) {
		b := mustPlayBox(t, 2, 2, play, 5)
		wantOfBox(t, callsOfLayer6(), b, true)
		wantOfBox(t, callsOfLoudBoxes(), b, true)
	}
}

func TestFunctionsOfLayer6TakeTwoQuestionsEachOnly(t *testing.T) {
	for _, size := range allSizes() {
		x, y := size[0], size[1]
		want := x == 2 && y == 2
		b := playBoxByHand(x, y, make([]int, x+y), 5)
		wantOfBox(t, callsOfLayer6(), b, want)
		wantOfBox(t, callsOfLoudBoxes(), b, want)
		wantOfBox(t, callsOfLoudBoxes(), markedBox(x, y, 100), want)
		for name, call := range callsOfGamesForQuiet() {
			g := gameBy(x, y, allWeights(1), func(x, y, a, c int) bool { return a > c })
			if ok, zero := call(g, g); ok != want || !ok && !zero {
				t.Errorf("%s of %v: %v, zero results %v", name, g, ok, zero)
			}
		}
	}
}

func TestLoudBoxesHaveSumsOnly(t *testing.T) {
	for _, b := range loudOfTwo() {
		if isQuietByHand(b) || !impl.IsBox(b) {
			t.Errorf("%v is no loud Box", b)
		}
		wantOfBox(t, callsOfLayer6(), b, false)
		wantOfBox(t, callsOfLoudBoxes(), b, true)
	}
	for _, whole := range []int{1, 2} {
		for _, b := range allBoxes(2, 2, whole) {
			if !isQuietByHand(b) {
				wantOfBox(t, callsOfLayer6(), b, false)
			}
		}
	}
	// This one differs from an extreme Box in one row alone.
	loud := box(2, 2, 2, []int{2, 0, 0, 0}, []int{2, 0, 0, 0}, []int{2, 0, 0, 0}, []int{1, 0, 0, 1})
	wantOfBox(t, callsOfLayer6(), loud, false)
}

func TestNoFunctionOfLayer6TakesAFlawedGame(t *testing.T) {
	for name, call := range callsOfGamesForQuiet() {
		for _, f := range flawedGames() {
			if ok, zero := call(f.bad, f.good); ok || !zero {
				t.Fatalf("%s of %v: %v, zero results %v", name, f.bad, ok, zero)
			}
		}
	}
	// Those of an extreme size have all the lists of a valid Game.
	for _, n := range append(extremeInts(), -4, -2, -1, 0, 1, 3, 4) {
		one, two, three := equalSumsGame(1), equalSumsGame(1), equalSumsGame(1)
		one.X, two.Y, three.X, three.Y = n, n, n, n
		for _, bad := range []impl.Game{one, two, three} {
			for name, call := range callsOfGamesForQuiet() {
				if ok, zero := call(bad, bad); ok || !zero {
					t.Fatalf("%s of %v: %v, zero results %v", name, bad, ok, zero)
				}
			}
		}
	}
}
