package tests

import (
	"fmt"
	"math/rand"
	"slices"
	"testing"

	"loop.example/g01141/impl"
)

func wantSigns(t *testing.T, m [][]int, rows, places []int) {
	t.Helper()
	gotRows, gotPlaces, ok := impl.BestSigns(m)
	if !ok || !slices.Equal(gotRows, rows) || !slices.Equal(gotPlaces, places) {
		t.Fatalf("BestSigns(%v) = %v, %v, %v; want %v, %v, true", m, gotRows, gotPlaces, ok, rows, places)
	}
}

func wantBias(t *testing.T, m [][]int, want int) {
	t.Helper()
	bias, ok := impl.SignBias(m)
	wantNumber(t, fmt.Sprintf("SignBias(%v)", m), bias, ok, want)
}

func wantCut(t *testing.T, m [][]int, want int) {
	t.Helper()
	cut, ok := impl.CutOf(m)
	wantNumber(t, fmt.Sprintf("CutOf(%v)", m), cut, ok, want)
}

// checkBias compares SignBias and BestSigns with all signs, and returns how many of these have the bias.
func checkBias(t *testing.T, m [][]int) int {
	t.Helper()
	bias, best := bestSignsByHand(m)
	wantBias(t, m, bias)
	wantSigns(t, m, best[0][0], best[0][1])
	return len(best)
}

// checkCut compares CutOf with all sets of rows and of places, and with the bias.
func checkCut(t *testing.T, m [][]int) {
	t.Helper()
	want := 0
	for _, rows := range allLists(len(m), 2) {
		for _, places := range allLists(len(m[0]), 2) {
			// Here, the factors 0 and 1 stand for what is not in the sets, and for what is.
			sum := sumWithSigns(m, rows, places)
			want = max(want, sum, -sum)
		}
	}
	wantCut(t, m, want)
	bias, ok := impl.SignBias(m)
	if !ok || want > bias || bias > 4*want {
		t.Fatalf("the cut of %v is %d, and the bias %d, %v", m, want, bias, ok)
	}
}

// checkSignSums compares the sum with each signs, by the functions alone, with the bias.
func checkSignSums(t *testing.T, m [][]int) {
	t.Helper()
	bias, _ := impl.SignBias(m)
	rows, places, ok := impl.BestSigns(m)
	if !ok || sumWithSigns(m, rows, places) != bias {
		t.Fatalf("the sum of %v with BestSigns %v, %v is not the bias %d", m, rows, places, bias)
	}
	for _, otherRows := range allSigns(len(m)) {
		for _, otherPlaces := range allSigns(len(m[0])) {
			sum := sumWithSigns(m, otherRows, otherPlaces)
			first := slices.Compare(otherRows, rows) < 0 || slices.Equal(otherRows, rows) && slices.Compare(otherPlaces, places) < 0
			if sum > bias || sum == bias && first {
				t.Fatalf("the sum of %v with %v, %v is %d, beside BestSigns %v, %v with %d", m, otherRows, otherPlaces, sum, rows, places, bias)
			}
		}
	}
}

// checkLocalValue compares the bias with the value of the functional.
func checkLocalValue(t *testing.T, m [][]int) {
	t.Helper()
	bias, _ := impl.SignBias(m)
	f, ok := impl.SignFunctional(m)
	if !ok {
		t.Fatalf("SignFunctional(%v) fails", m)
	}
	value, ok := impl.LocalValue(len(m), len(m[0]), f)
	wantNumber(t, fmt.Sprintf("LocalValue of SignFunctional(%v)", m), value, ok, bias)
}

func TestBiasByHand(t *testing.T) {
	for _, c := range []struct {
		m            [][]int
		bias         int
		rows, places []int
		cut          int
	}{
		{[][]int{{1, 1}, {1, -1}}, 2, []int{-1, -1}, []int{-1, -1}, 2},
		{[][]int{{1, -1}, {-1, 1}}, 4, []int{-1, 1}, []int{-1, 1}, 1},
		{[][]int{{5}}, 5, []int{-1}, []int{-1}, 5},
		{[][]int{{-5}}, 5, []int{-1}, []int{1}, 5},
		{[][]int{{0}}, 0, []int{-1}, []int{-1}, 0},
		{[][]int{{3, 0, -4}}, 7, []int{-1}, []int{-1, -1, 1}, 4},
		{[][]int{{3}, {0}, {-4}}, 7, []int{-1, -1, 1}, []int{-1}, 4},
		{[][]int{{0, 0}, {0, -2}}, 2, []int{-1, -1}, []int{-1, 1}, 2},
		{[][]int{{0, 0}, {3, -2}}, 5, []int{-1, -1}, []int{-1, 1}, 3},
		// In each row alone, other signs of the places would be the best: the greater number decides.
		{[][]int{{9, 1}, {2, -3}}, 13, []int{-1, -1}, []int{-1, 1}, 11},
		{[][]int{{-1, 2, 3}, {4, -5, 6}, {7, 8, -9}}, 33, []int{-1, -1, 1}, []int{1, 1, -1}, 16},
	} {
		wantSigns(t, c.m, c.rows, c.places)
		wantBias(t, c.m, c.bias)
		wantCut(t, c.m, c.cut)
	}
}

// Without any numbers, all signs are as good, and the first ones are taken.
func TestBiasOfZeros(t *testing.T) {
	for _, size := range allSizes() {
		x, y := size[0], size[1]
		m := evenNumbers(x, y, 0)
		wantBias(t, m, 0)
		wantCut(t, m, 0)
		wantSigns(t, m, slices.Repeat([]int{-1}, x), slices.Repeat([]int{-1}, y))
		if count := checkBias(t, m); count != 1<<(x+y) {
			t.Errorf("%d signs have the bias of %v", count, m)
		}
	}
}

// All numbers in one product of signs: the bias is the sum of all numbers, without their signs.
func TestBiasOfTheGreatestNumbers(t *testing.T) {
	for _, size := range allSizes() {
		x, y := size[0], size[1]
		for _, n := range []int{impl.MaxSign, -impl.MaxSign} {
			for _, m := range allSwitchedByHand(evenNumbers(x, y, n)) {
				wantBias(t, m, 9*x*y)
				checkBias(t, m)
				checkCut(t, m)
			}
			wantCut(t, evenNumbers(x, y, n), 9*x*y)
		}
		wantSigns(t, evenNumbers(x, y, 9), slices.Repeat([]int{-1}, x), slices.Repeat([]int{-1}, y))
		wantSigns(t, evenNumbers(x, y, -9), slices.Repeat([]int{-1}, x), plusSigns(y))
	}
}

func checkBiasAndCut(t *testing.T, m [][]int) int {
	t.Helper()
	checkCut(t, m)
	checkSignSums(t, m)
	return checkBias(t, m)
}

func TestBiasOfAllSmallSignGames(t *testing.T) {
	for n := -impl.MaxSign; n <= impl.MaxSign; n++ {
		checkBiasAndCut(t, [][]int{{n}})
		wantBias(t, [][]int{{n}}, max(n, -n))
		wantCut(t, [][]int{{n}}, max(n, -n))
	}
	for _, size := range [][3]int{{1, 2, 9}, {2, 1, 9}, {1, 3, 2}, {3, 1, 2}, {2, 2, 2}, {2, 3, 1}, {3, 2, 1}} {
		for _, m := range allNumbers(size[0], size[1], size[2]) {
			checkBiasAndCut(t, m)
			checkLocalValue(t, m)
		}
	}
}

// With all signs opposite, the sum is the same, so that at least two pairs of lists have the bias.
func TestBiasOfSignGames(t *testing.T) {
	r := rand.New(rand.NewSource(64))
	several, pairs := 0, 0
	for _, size := range allSizes() {
		for range 200 {
			m := someSignNumbers(r, size[0], size[1])
			switch count := checkBiasAndCut(t, m); {
			case count == 2:
				pairs++
			case count > 2:
				several++
			}
			checkLocalValue(t, m)
		}
	}
	if several < 300 || pairs < 300 {
		t.Errorf("%d sign games had two pairs of best signs, and %d had more", pairs, several)
	}
}

// The bias can be the cut, and 4 times it.
func TestCutsAtBothBounds(t *testing.T) {
	r := rand.New(rand.NewSource(65))
	least, greatest := 0, 0
	for range 1000 {
		size := allSizes()[r.Intn(9)]
		m := someSignNumbers(r, size[0], size[1])
		checkCut(t, m)
		bias, _ := impl.SignBias(m)
		cut, _ := impl.CutOf(m)
		if bias == cut && bias > 0 {
			least++
		}
		if bias == 4*cut && bias > 0 {
			greatest++
		}
	}
	if least < 10 || greatest < 2 {
		t.Errorf("the bias of %d sign games was the cut, and that of %d was 4 times it", least, greatest)
	}
	for n := 1; n <= impl.MaxSign; n++ {
		m := [][]int{{n, -n}, {-n, n}}
		wantCut(t, m, n)
		wantBias(t, m, 4*n)
		wantCut(t, [][]int{{n, n}, {n, n}}, 4*n)
		wantCut(t, [][]int{{-n, -n}, {-n, -n}}, 4*n)
		wantBias(t, [][]int{{n, n}, {n, n}}, 4*n)
	}
}

// The sign of the whole does not matter, nor do zeros around it.
func TestBiasOfOppositesAndOfPartsBesideZeros(t *testing.T) {
	r := rand.New(rand.NewSource(66))
	for _, size := range allSizes() {
		x, y := size[0], size[1]
		for range 30 {
			m := someSignNumbers(r, x, y)
			bias, _ := impl.SignBias(m)
			cut, _ := impl.CutOf(m)
			opposite := numbersBy(x, y, func(i, j int) int { return -m[i][j] })
			wider := numbersBy(3, 3, func(i, j int) int {
				if i < 3-x || j < 3-y {
					return 0
				}
				return m[i-3+x][j-3+y]
			})
			turned := numbersBy(y, x, func(i, j int) int { return m[j][i] })
			for _, other := range [][][]int{opposite, wider, turned} {
				wantBias(t, other, bias)
				wantCut(t, other, cut)
			}
		}
	}
}
