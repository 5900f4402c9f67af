package tests

import (
	"fmt"
	"math/rand"
	"slices"
	"testing"

	"loop.example/g01141/impl"
)

func wantRows(t *testing.T, what string, got [][]int, ok bool, want ...[]int) {
	t.Helper()
	if !ok || !sameRows(got, want) {
		t.Fatalf("%s = %v, %v; want %v, true", what, got, ok, want)
	}
}

func wantNoRows(t *testing.T, what string, got [][]int, ok bool) {
	t.Helper()
	if ok || len(got) != 0 {
		t.Fatalf("%s = %v, %v; want no lists, false", what, got, ok)
	}
}

func wantNumber(t *testing.T, what string, got int, ok bool, want int) {
	t.Helper()
	if !ok || got != want {
		t.Fatalf("%s = %d, %v; want %d, true", what, got, ok, want)
	}
}

func wantNoNumber(t *testing.T, what string, got int, ok bool) {
	t.Helper()
	if ok || got != 0 {
		t.Fatalf("%s = %d, %v; want 0, false", what, got, ok)
	}
}

func wantReport(t *testing.T, what string, got bool, ok bool, want bool) {
	t.Helper()
	if !ok || got != want {
		t.Fatalf("%s = %v, %v; want %v, true", what, got, ok, want)
	}
}

func wantNoReport(t *testing.T, what string, got bool, ok bool) {
	t.Helper()
	if ok || got {
		t.Fatalf("%s = %v, %v; want false, false", what, got, ok)
	}
}

func TestPlaysOf(t *testing.T) {
	plays, ok := impl.PlaysOf(1, 1)
	wantRows(t, "PlaysOf(1, 1)", plays, ok, []int{0, 0}, []int{0, 1}, []int{1, 0}, []int{1, 1})
	plays, ok = impl.PlaysOf(1, 2)
	wantRows(t, "PlaysOf(1, 2)", plays, ok, []int{0, 0, 0}, []int{0, 0, 1}, []int{0, 1, 0}, []int{0, 1, 1}, []int{1, 0, 0}, []int{1, 0, 1}, []int{1, 1, 0}, []int{1, 1, 1})
	for _, size := range allSizes() {
		plays, ok := impl.PlaysOf(size[0], size[1])
		wantRows(t, fmt.Sprintf("PlaysOf for %v questions", size), plays, ok, allLists(size[0]+size[1], 2)...)
		for i, play := range plays {
			if is, ok := impl.IsPlay(size[0], size[1], play); !ok || !is || i > 0 && slices.Compare(plays[i-1], play) >= 0 {
				t.Errorf("PlaysOf for %v questions: %v", size, plays)
			}
		}
	}
	for _, size := range badSizes() {
		plays, ok := impl.PlaysOf(size[0], size[1])
		wantNoRows(t, fmt.Sprintf("PlaysOf for %v questions", size), plays, ok)
	}
}

// bestByHand compares the worths for the Boxes of all plays.
func bestByHand(x, y int, f [][]int) (int, [][]int) {
	var worths []int
	plays := allLists(x+y, 2)
	for _, play := range plays {
		worths = append(worths, worthByHand(f, playBoxByHand(x, y, play, 1)))
	}
	value := slices.Max(worths)
	var best [][]int
	for i, play := range plays {
		if worths[i] == value {
			best = append(best, play)
		}
	}
	return value, best
}

func checkBest(t *testing.T, x, y int, f [][]int) int {
	t.Helper()
	want, plays := bestByHand(x, y, f)
	value, ok := impl.LocalValue(x, y, f)
	wantNumber(t, fmt.Sprintf("LocalValue(%d, %d, %v)", x, y, f), value, ok, want)
	best, ok := impl.BestPlays(x, y, f)
	wantRows(t, fmt.Sprintf("BestPlays(%d, %d, %v)", x, y, f), best, ok, plays...)
	return len(best)
}

func TestValuesByHand(t *testing.T) {
	value, ok := impl.LocalValue(1, 1, [][]int{{1, 2, 3, 4}})
	wantNumber(t, "LocalValue", value, ok, 4)
	value, ok = impl.LocalValue(1, 1, [][]int{{-4, -2, -3, -4}})
	wantNumber(t, "LocalValue", value, ok, -2)
	best, ok := impl.BestPlays(1, 1, [][]int{{-4, -2, -3, -4}})
	wantRows(t, "BestPlays", best, ok, []int{0, 1})
	best, ok = impl.BestPlays(1, 1, [][]int{{5, 0, 0, 5}})
	wantRows(t, "BestPlays", best, ok, []int{0, 0}, []int{1, 1})
	// The second player answers both questions, and the first one the same in both rows.
	f := [][]int{{0, 3, 9, 1}, {2, 7, 0, 1}}
	value, ok = impl.LocalValue(1, 2, f)
	wantNumber(t, "LocalValue", value, ok, 10)
	best, ok = impl.BestPlays(1, 2, f)
	wantRows(t, "BestPlays", best, ok, []int{0, 1, 1}, []int{1, 0, 1})
	value, ok = impl.LocalValue(2, 1, f)
	wantNumber(t, "LocalValue", value, ok, 11)
	best, ok = impl.BestPlays(2, 1, f)
	wantRows(t, "BestPlays", best, ok, []int{1, 0, 0})
}

func TestValuesAndBestPlays(t *testing.T) {
	r := rand.New(rand.NewSource(20))
	several := 0
	for _, size := range allSizes() {
		x, y := size[0], size[1]
		for range 60 {
			if checkBest(t, x, y, someFunctional(r, x, y)) > 1 {
				several++
			}
			checkBest(t, x, y, smallFunctional(r, x, y))
		}
	}
	if several < 20 {
		t.Errorf("only %d functionals had several best plays", several)
	}
}

func smallFunctional(r *rand.Rand, x, y int) [][]int {
	f := noFactors(x * y)
	for _, factors := range f {
		for i := range factors {
			factors[i] = r.Intn(5) - 2
		}
	}
	return f
}

// A greatest worth below 0 is the value all the same, and if all worths are the same, all plays are the best ones.
func TestValuesOfTheGreatestFactors(t *testing.T) {
	for _, size := range allSizes() {
		x, y := size[0], size[1]
		for _, factor := range []int{0, 1, -1, impl.MaxFactor, -impl.MaxFactor} {
			f := noFactors(x * y)
			for _, factors := range f {
				for i := range factors {
					factors[i] = factor
				}
			}
			value, ok := impl.LocalValue(x, y, f)
			wantNumber(t, fmt.Sprintf("LocalValue(%d, %d, %v)", x, y, f), value, ok, factor*x*y)
			best, ok := impl.BestPlays(x, y, f)
			wantRows(t, fmt.Sprintf("BestPlays(%d, %d, %v)", x, y, f), best, ok, allLists(x+y, 2)...)
		}
		for _, play := range allLists(x+y, 2) {
			for _, factor := range []int{1, impl.MaxFactor} {
				f := playBoxByHand(x, y, play, factor).Rows
				value, ok := impl.LocalValue(x, y, f)
				wantNumber(t, fmt.Sprintf("LocalValue(%d, %d, %v)", x, y, f), value, ok, factor*x*y)
				best, ok := impl.BestPlays(x, y, f)
				wantRows(t, fmt.Sprintf("BestPlays(%d, %d, %v)", x, y, f), best, ok, play)
			}
		}
	}
}

func wantNoValue(t *testing.T, x, y int, f [][]int) {
	t.Helper()
	value, ok := impl.LocalValue(x, y, f)
	wantNoNumber(t, fmt.Sprintf("LocalValue(%d, %d, %v)", x, y, f), value, ok)
	best, ok := impl.BestPlays(x, y, f)
	wantNoRows(t, fmt.Sprintf("BestPlays(%d, %d, %v)", x, y, f), best, ok)
}

func TestFlawedFunctionalsHaveNoValue(t *testing.T) {
	for _, size := range allSizes() {
		for _, f := range flawedFunctionals(size[0], size[1]) {
			wantNoValue(t, size[0], size[1], f)
		}
		for rows := range 17 {
			if rows != size[0]*size[1] {
				wantNoValue(t, size[0], size[1], noFactors(rows))
			}
		}
	}
	for _, size := range badSizes() {
		for rows := range 17 {
			wantNoValue(t, size[0], size[1], noFactors(rows))
		}
	}
}
