package tests

import (
	"math/rand"
	"slices"
	"testing"

	"loop.example/g01141/impl"
)

// flawedSigns is no sign game. A good one with as many rows and places stands beside it, if there is such a sign game.
type flawedSigns struct {
	bad, good [][]int
}

func flawedSignGames() []flawedSigns {
	flawed := []flawedSigns{{nil, markedSigns(1, 1)}, {[][]int{}, markedSigns(1, 1)}}
	for _, size := range badSizes() {
		x, y := size[0], size[1]
		if x < 0 || y < 0 || x > 100 || y > 100 {
			continue
		}
		for _, n := range []int{0, 1, -9} {
			flawed = append(flawed, flawedSigns{evenNumbers(x, y, n), markedSigns(min(max(x, 1), 3), min(max(y, 1), 3))})
		}
	}
	for _, size := range allSizes() {
		good := markedSigns(size[0], size[1])
		for _, bad := range slices.Concat(flawedLengths(good), flawedSignNumbers(good)) {
			flawed = append(flawed, flawedSigns{bad, good})
		}
	}
	return flawed
}

// flawedLengths has one row of another length than the others, or no numbers at all.
func flawedLengths(good [][]int) [][][]int {
	flawed := [][][]int{make([][]int, len(good)), slices.Repeat([][]int{{}}, len(good))}
	for place, row := range good {
		for _, other := range [][]int{nil, {}, row[:len(row)-1], append(slices.Clone(row), 1), append(slices.Clone(row), 0), make([]int, 4), make([]int, 100)} {
			if len(good) > 1 || len(other) == 0 || len(other) > impl.MaxQuestions {
				bad := copyRows(good)
				bad[place] = other
				flawed = append(flawed, bad)
			}
		}
	}
	return flawed
}

func flawedSignNumbers(good [][]int) [][][]int {
	var flawed [][][]int
	for x, row := range good {
		for y := range row {
			for _, n := range append(extremeInts(), impl.MaxSign+1, -impl.MaxSign-1, impl.MaxSign+2, -impl.MaxSign-2, 99, -99, 1000) {
				bad, alone := copyRows(good), evenNumbers(len(good), len(row), 0)
				bad[x][y], alone[x][y] = n, n
				flawed = append(flawed, bad, alone)
			}
		}
	}
	return flawed
}

func TestFlawedSignGamesAreNone(t *testing.T) {
	for _, f := range flawedSignGames() {
		if impl.IsSignGame(f.bad) {
			t.Fatalf("IsSignGame(%v)", f.bad)
		}
		if !impl.IsSignGame(f.good) {
			t.Fatalf("not IsSignGame(%v)", f.good)
		}
	}
}

func TestSignGamesOfEachSizeAndNumber(t *testing.T) {
	r := rand.New(rand.NewSource(62))
	for _, size := range allSizes() {
		x, y := size[0], size[1]
		for range 100 {
			if m := someSignNumbers(r, x, y); !impl.IsSignGame(m) {
				t.Fatalf("not IsSignGame(%v)", m)
			}
		}
		for n := -20; n <= 20; n++ {
			want := n >= -impl.MaxSign && n <= impl.MaxSign
			if impl.IsSignGame(evenNumbers(x, y, n)) != want {
				t.Errorf("IsSignGame of %v rows and places with %d is not %v", size, n, want)
			}
			for place := range x * y {
				m := evenNumbers(x, y, 0)
				m[place/y][place%y] = n
				if impl.IsSignGame(m) != want {
					t.Errorf("IsSignGame(%v) is not %v", m, want)
				}
			}
		}
	}
}

func TestNoFunctionTakesAFlawedSignGame(t *testing.T) {
	for name, call := range callsOfSigns() {
		for _, f := range flawedSignGames() {
			if ok, zero := call(f.bad, f.good); ok || !zero {
				t.Fatalf("%s of %v: %v, zero results %v", name, f.bad, ok, zero)
			}
		}
	}
}

func TestEachFunctionTakesSignGamesOfEachSize(t *testing.T) {
	r := rand.New(rand.NewSource(63))
	for name, call := range callsOfSigns() {
		for _, size := range allSizes() {
			x, y := size[0], size[1]
			// With 9 everywhere, the greatest sign games have still an EvenLid for k = 1.
			for _, m := range [][][]int{markedSigns(x, y), someSignNumbers(r, x, y), evenNumbers(x, y, 0), evenNumbers(x, y, 9), evenNumbers(x, y, -9)} {
				if ok, _ := call(m, m); !ok {
					t.Errorf("%s of %v fails", name, m)
				}
			}
		}
	}
}
