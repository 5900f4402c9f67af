package tests

import (
	"fmt"
	"math/rand"
	"slices"
	"testing"

	"loop.example/g01141/impl"
)

func wantSwitched(t *testing.T, m, n [][]int, want bool) {
	t.Helper()
	are, ok := impl.AreSwitched(m, n)
	wantReport(t, fmt.Sprintf("AreSwitched(%v, %v)", m, n), are, ok, want)
}

func mustFirstSwitched(t *testing.T, m [][]int) [][]int {
	t.Helper()
	first, ok := impl.FirstSwitched(m)
	if !ok {
		t.Fatalf("FirstSwitched(%v) fails", m)
	}
	return first
}

func TestSwitchesByHand(t *testing.T) {
	m := [][]int{{1, 0, -3}, {-4, 5, 6}}
	for _, c := range []struct {
		rows, places []int
		want         [][]int
	}{
		{[]int{1, 1}, []int{1, 1, 1}, [][]int{{1, 0, -3}, {-4, 5, 6}}},
		{[]int{-1, -1}, []int{-1, -1, -1}, [][]int{{1, 0, -3}, {-4, 5, 6}}},
		{[]int{1, -1}, []int{1, 1, 1}, [][]int{{1, 0, -3}, {4, -5, -6}}},
		{[]int{1, 1}, []int{1, 1, -1}, [][]int{{1, 0, 3}, {-4, 5, -6}}},
		{[]int{-1, 1}, []int{-1, 1, 1}, [][]int{{1, 0, 3}, {4, 5, 6}}},
	} {
		n, ok := impl.SwitchSigns(m, c.rows, c.places)
		wantRows(t, fmt.Sprintf("SwitchSigns(%v, %v, %v)", m, c.rows, c.places), n, ok, c.want...)
	}
	for _, c := range [][2][][]int{
		{{{1, 1}, {1, -1}}, {{-1, -1}, {-1, 1}}},
		{{{5}}, {{-5}}},
		{{{-5}}, {{-5}}},
		{{{0}}, {{0}}},
		{{{0, 3, 0}}, {{0, -3, 0}}},
		{{{0, 3}, {2, 4}}, {{0, -3}, {-2, -4}}},
		{{{0, 3}, {2, -4}}, {{0, -3}, {-2, -4}}},
		{{{1, 2}, {3, -4}}, {{-1, -2}, {-3, 4}}},
		{{{1, 2}, {-3, -4}}, {{-1, -2}, {-3, -4}}},
		{{{0, 0}, {1, -1}, {1, 1}}, {{0, 0}, {-1, -1}, {-1, 1}}},
	} {
		wantRows(t, fmt.Sprintf("FirstSwitched(%v)", c[0]), mustFirstSwitched(t, c[0]), true, c[1]...)
		wantSwitched(t, c[0], c[1], true)
	}
}

// checkSwitch compares one switch with the definition: the bias stays, twice leaves the sign game, and both have the same first one.
func checkSwitch(t *testing.T, m [][]int, rows, places []int) [][]int {
	t.Helper()
	n, ok := impl.SwitchSigns(m, rows, places)
	wantRows(t, fmt.Sprintf("SwitchSigns(%v, %v, %v)", m, rows, places), n, ok, switchedByHand(m, rows, places)...)
	back, ok := impl.SwitchSigns(n, rows, places)
	wantRows(t, fmt.Sprintf("SwitchSigns(%v, %v, %v)", n, rows, places), back, ok, m...)
	one, _ := impl.SignBias(m)
	two, ok := impl.SignBias(n)
	wantNumber(t, fmt.Sprintf("SignBias(%v), which is %v switched", n, m), two, ok, one)
	return n
}

// checkFirst compares FirstSwitched with all that are switched, and the same for each of these.
func checkFirst(t *testing.T, m [][]int) {
	t.Helper()
	all := allSwitchedByHand(m)
	want := slices.MinFunc(all, compareRows)
	for _, n := range all {
		first := mustFirstSwitched(t, n)
		wantRows(t, fmt.Sprintf("FirstSwitched(%v)", n), first, true, want...)
		if compareRows(first, n) > 0 {
			t.Fatalf("FirstSwitched(%v) = %v", n, first)
		}
	}
	wantRows(t, fmt.Sprintf("FirstSwitched(%v)", want), mustFirstSwitched(t, want), true, want...)
	wantSwitched(t, m, want, true)
	wantSwitched(t, want, m, true)
}

func TestSwitches(t *testing.T) {
	r := rand.New(rand.NewSource(67))
	for _, size := range allSizes() {
		x, y := size[0], size[1]
		games := [][][]int{markedSigns(x, y), evenNumbers(x, y, 0), evenNumbers(x, y, 9), evenNumbers(x, y, -9)}
		for range 4 {
			games = append(games, someSignNumbers(r, x, y))
		}
		for _, m := range games {
			for _, rows := range allSigns(x) {
				for _, places := range allSigns(y) {
					wantSwitched(t, m, checkSwitch(t, m, rows, places), true)
				}
			}
			checkFirst(t, m)
		}
	}
}

// They are compared row by row, and number by number.
func TestFirstSwitchedOfAllSmallSignGames(t *testing.T) {
	for _, size := range [][3]int{{1, 1, 9}, {1, 2, 3}, {2, 1, 3}, {2, 2, 1}, {1, 3, 1}, {3, 1, 1}, {2, 3, 1}, {3, 2, 1}} {
		for _, m := range allNumbers(size[0], size[1], size[2]) {
			want := slices.MinFunc(allSwitchedByHand(m), compareRows)
			wantRows(t, fmt.Sprintf("FirstSwitched(%v)", m), mustFirstSwitched(t, m), true, want...)
		}
	}
}

func areSwitchedByHand(m, n [][]int) bool {
	return slices.ContainsFunc(allSwitchedByHand(m), func(other [][]int) bool { return sameRows(other, n) })
}

func TestSwitchedAmongAllSmallSignGames(t *testing.T) {
	for _, size := range [][3]int{{1, 1, 9}, {1, 2, 2}, {2, 1, 2}, {2, 2, 1}} {
		games := allNumbers(size[0], size[1], size[2])
		for _, m := range games {
			all := allSwitchedByHand(m)
			for _, n := range games {
				wantSwitched(t, m, n, slices.ContainsFunc(all, func(other [][]int) bool { return sameRows(other, n) }))
			}
		}
	}
}

// Some are switched only by signs of both rows and places: with those of rows alone, or of places alone, they are not.
func TestSwitchedByRowsAndPlacesOnly(t *testing.T) {
	m, n := [][]int{{1, 1}, {1, -1}}, [][]int{{-1, 1}, {1, 1}}
	wantSwitched(t, m, n, true)
	for _, signs := range allSigns(2) {
		for _, other := range [][][]int{switchedByHand(m, signs, plusSigns(2)), switchedByHand(m, plusSigns(2), signs)} {
			if sameRows(other, n) {
				t.Errorf("%v becomes %v by signs of rows, or of places, alone", m, n)
			}
		}
	}
	r := rand.New(rand.NewSource(68))
	for _, size := range allSizes() {
		x, y := size[0], size[1]
		for range 50 {
			m := someSignNumbers(r, x, y)
			wantSwitched(t, m, switchedByHand(m, someSigns(r, x), someSigns(r, y)), true)
			wantSwitched(t, m, switchedByHand(m, someSigns(r, x), plusSigns(y)), true)
			wantSwitched(t, m, switchedByHand(m, plusSigns(x), someSigns(r, y)), true)
		}
	}
}

// One other number, or the sign of one number of four that meet, is enough.
func TestOthersAreNotSwitched(t *testing.T) {
	wantSwitched(t, [][]int{{1, 1}, {1, -1}}, [][]int{{1, 1}, {1, 1}}, false)
	wantSwitched(t, [][]int{{1, 2}}, [][]int{{2, 1}}, false)
	wantSwitched(t, [][]int{{1}, {2}}, [][]int{{2}, {1}}, false)
	wantSwitched(t, [][]int{{1, 2}, {3, 4}}, [][]int{{1, 3}, {2, 4}}, false)
	for _, size := range allSizes() {
		x, y := size[0], size[1]
		m := markedSigns(x, y)
		for place := range x * y {
			n := copyRows(m)
			n[place/y][place%y] *= -1
			wantSwitched(t, m, n, x == 1 || y == 1)
			n[place/y][place%y] = 0
			wantSwitched(t, m, n, false)
			wantSwitched(t, n, m, false)
		}
	}
	r := rand.New(rand.NewSource(69))
	are, others := 0, 0
	for range 3000 {
		size := allSizes()[r.Intn(9)]
		x, y := size[0], size[1]
		m := someSignNumbers(r, x, y)
		n := numbersBy(x, y, func(i, j int) int { return m[i][j] * (1 - 2*r.Intn(2)) })
		want := areSwitchedByHand(m, n)
		wantSwitched(t, m, n, want)
		if want {
			are++
		} else {
			others++
		}
	}
	if are < 300 || others < 300 {
		t.Errorf("%d were switched, and %d were not", are, others)
	}
}

// It is no failure if the numbers of rows or of places differ, also where the numbers in order are the same.
func TestSignGamesOfOtherSizesAreNotSwitched(t *testing.T) {
	for _, size := range allSizes() {
		for _, other := range allSizes() {
			for _, n := range []int{0, 1, -9} {
				wantSwitched(t, evenNumbers(size[0], size[1], n), evenNumbers(other[0], other[1], n), size == other)
			}
		}
	}
}

func TestOtherSignsSwitchNothing(t *testing.T) {
	for _, size := range allSizes() {
		x, y := size[0], size[1]
		for _, m := range [][][]int{markedSigns(x, y), evenNumbers(x, y, 0)} {
			for _, list := range badSigns(x) {
				n, ok := impl.SwitchSigns(m, list, plusSigns(y))
				wantNoRows(t, fmt.Sprintf("SwitchSigns(%v, %v, ..)", m, list), n, ok)
			}
			for _, list := range badSigns(y) {
				n, ok := impl.SwitchSigns(m, plusSigns(x), list)
				wantNoRows(t, fmt.Sprintf("SwitchSigns(%v, .., %v)", m, list), n, ok)
			}
		}
	}
	n, ok := impl.SwitchSigns(markedSigns(1, 2), []int{1, 1}, []int{1})
	wantNoRows(t, "SwitchSigns with signs for 2 rows and 1 place", n, ok)
}
