package tests

import (
	"fmt"
	"math/rand"
	"testing"

	"loop.example/g01141/impl"
)

func checkWorth(t *testing.T, f [][]int, b impl.Box) {
	t.Helper()
	worth, ok := impl.WorthOf(f, b)
	if want := worthByHand(f, b); !ok || worth != want {
		t.Fatalf("WorthOf(%v, %v) = %d, %v; want %d, true", f, b, worth, ok, want)
	}
}

func wantNoWorth(t *testing.T, f [][]int, b impl.Box) {
	t.Helper()
	if worth, ok := impl.WorthOf(f, b); ok || worth != 0 {
		t.Fatalf("WorthOf(%v, %v) = %d, %v; want 0, false", f, b, worth, ok)
	}
}

func wantPlayWorth(t *testing.T, x, y int, f [][]int, play []int, want int) {
	t.Helper()
	if worth, ok := impl.PlayWorth(x, y, f, play); !ok || worth != want {
		t.Fatalf("PlayWorth(%d, %d, %v, %v) = %d, %v; want %d, true", x, y, f, play, worth, ok, want)
	}
}

func wantNoPlayWorth(t *testing.T, x, y int, f [][]int, play []int) {
	t.Helper()
	if worth, ok := impl.PlayWorth(x, y, f, play); ok || worth != 0 {
		t.Fatalf("PlayWorth(%d, %d, %v, %v) = %d, %v; want 0, false", x, y, f, play, worth, ok)
	}
}

func TestWorthsByHand(t *testing.T) {
	sums := box(2, 2, 2, []int{1, 0, 0, 1}, []int{1, 0, 0, 1}, []int{1, 0, 0, 1}, []int{0, 1, 1, 0})
	equal := [][]int{{1, 0, 0, 1}, {1, 0, 0, 1}, {1, 0, 0, 1}, {1, 0, 0, 1}}
	if worth, ok := impl.WorthOf(equal, sums); !ok || worth != 6 {
		t.Errorf("WorthOf = %d, %v; want 6, true", worth, ok)
	}
	wantPlayWorth(t, 2, 2, equal, []int{0, 0, 0, 0}, 4)
	wantPlayWorth(t, 2, 2, equal, []int{0, 1, 1, 0}, 2)
	wantPlayWorth(t, 1, 2, [][]int{{1, 2, 3, 4}, {-10, 20, -30, 40}}, []int{1, 0, 1}, 43)
	wantPlayWorth(t, 1, 2, [][]int{{1, 2, 3, 4}, {-10, 20, -30, 40}}, []int{0, 1, 0}, -8)
	wantPlayWorth(t, 2, 1, [][]int{{1, 2, 3, 4}, {-10, 20, -30, 40}}, []int{1, 0, 1}, 24)
	if worth, ok := impl.WorthOf([][]int{{1, -2, 3, -4}}, box(1, 1, 100, []int{10, 20, 30, 40})); !ok || worth != -100 {
		t.Errorf("WorthOf = %d, %v; want -100, true", worth, ok)
	}
}

func TestWorths(t *testing.T) {
	r := rand.New(rand.NewSource(13))
	for range 5000 {
		size := allSizes()[r.Intn(9)]
		checkWorth(t, someFunctional(r, size[0], size[1]), someBox(r, size[0], size[1]))
	}
	for _, size := range allSizes() {
		b := markedBox(size[0], size[1], 1000)
		for place := range b.Rows {
			for at := range 4 {
				f := noFactors(len(b.Rows))
				for _, n := range []int{1, -1, 98, impl.MaxFactor, -impl.MaxFactor} {
					f[place][at] = n
					if worth, ok := impl.WorthOf(f, b); !ok || worth != n*b.Rows[place][at] {
						t.Fatalf("WorthOf(%v, %v) = %d, %v", f, b, worth, ok)
					}
				}
			}
		}
	}
}

func TestWorthsOfPlays(t *testing.T) {
	r := rand.New(rand.NewSource(14))
	for _, size := range allSizes() {
		x, y := size[0], size[1]
		for range 20 {
			f := someFunctional(r, x, y)
			for _, play := range allLists(x+y, 2) {
				want := 0
				for i := range x {
					for j := range y {
						want += f[i*y+j][2*play[i]+play[x+j]]
					}
				}
				wantPlayWorth(t, x, y, f, play, want)
				checkWorth(t, f, mustPlayBox(t, x, y, play, 1))
			}
		}
	}
}

// The worth for the greatest Whole and factors is 9 * 1000 * 99.
func TestGreatestWorths(t *testing.T) {
	for _, size := range allSizes() {
		x, y := size[0], size[1]
		for _, factor := range []int{impl.MaxFactor, -impl.MaxFactor} {
			f := noFactors(x * y)
			for _, factors := range f {
				for i := range factors {
					factors[i] = factor
				}
			}
			for _, b := range []impl.Box{markedBox(x, y, 1000), playBoxByHand(x, y, make([]int, x+y), 1000)} {
				if worth, ok := impl.WorthOf(f, b); !ok || worth != factor*1000*x*y {
					t.Errorf("WorthOf(%v, %v) = %d, %v", f, b, worth, ok)
				}
			}
			wantPlayWorth(t, x, y, f, make([]int, x+y), factor*x*y)
		}
	}
}

func flawedFunctionals(x, y int) [][][]int {
	rows := x * y
	flawed := [][][]int{nil, {}, noFactors(rows - 1), noFactors(rows + 1), noFactors(100), make([][]int, rows)}
	for place := range rows {
		for _, size := range []int{0, 1, 3, 5, 8} {
			f := noFactors(rows)
			f[place] = make([]int, size)
			flawed = append(flawed, f)
		}
		for at := range 4 {
			for _, n := range append(extremeInts(), impl.MaxFactor+1, -impl.MaxFactor-1, impl.MaxFactor+2, -1000, 1000) {
				f := noFactors(rows)
				f[place][at] = n
				flawed = append(flawed, f)
			}
		}
	}
	return flawed
}

func TestFlawedFunctionalsHaveNoWorth(t *testing.T) {
	for _, size := range allSizes() {
		x, y := size[0], size[1]
		b := markedBox(x, y, 1000)
		// Where a factor is beyond the limit, the number of this Box may be 0.
		play := playBoxByHand(x, y, make([]int, x+y), 1)
		for _, f := range flawedFunctionals(x, y) {
			wantNoWorth(t, f, b)
			wantNoWorth(t, f, play)
			wantNoPlayWorth(t, x, y, f, make([]int, x+y))
		}
	}
}

func TestFunctionalsForOtherQuestionsHaveNoWorth(t *testing.T) {
	for _, size := range allSizes() {
		for _, other := range allSizes() {
			f, b := noFactors(other[0]*other[1]), markedBox(size[0], size[1], 1000)
			if len(f) != len(b.Rows) {
				wantNoWorth(t, f, b)
				wantNoPlayWorth(t, size[0], size[1], f, make([]int, size[0]+size[1]))
			}
		}
	}
}

func TestNoPlayNoWorth(t *testing.T) {
	for _, size := range allSizes() {
		for _, list := range badBits(size[0] + size[1]) {
			wantNoPlayWorth(t, size[0], size[1], noFactors(size[0]*size[1]), list)
		}
	}
	for _, size := range badSizes() {
		for length := range 9 {
			for _, rows := range []int{0, 1, 2, 3, 4, 6, 8, 9, 16} {
				wantNoPlayWorth(t, size[0], size[1], noFactors(rows), make([]int, length))
			}
		}
	}
}

// The worth for a Box that was mixed is the sum of both worths.
func TestWorthsOfMixturesAreSums(t *testing.T) {
	r := rand.New(rand.NewSource(15))
	for range 5000 {
		size := allSizes()[r.Intn(9)]
		a, b, f := someBox(r, size[0], size[1]), someQuietBox(r, size[0], size[1]), someFunctional(r, size[0], size[1])
		if a.Whole+b.Whole > impl.MaxWhole {
			continue
		}
		mix := mustMix(t, a, b)
		one, first := impl.WorthOf(f, a)
		two, second := impl.WorthOf(f, b)
		both, mixed := impl.WorthOf(f, mix)
		if !first || !second || !mixed || both != one+two {
			t.Fatalf("worth of %v for %v, %v and their mixture: %d, %d, %d", f, a, b, one, two, both)
		}
		k := 1 + r.Intn(impl.MaxWhole/a.Whole)
		scaled, ok := impl.ScaleBox(a, k)
		if worth, valid := impl.WorthOf(f, scaled); !ok || !valid || worth != k*one {
			t.Fatalf("worth of %v for %v = %d, and %d times so: %d", f, a, one, k, worth)
		}
	}
}

func TestWorthOfAPlayBoxIsWholeTimesThatOfThePlay(t *testing.T) {
	r := rand.New(rand.NewSource(16))
	for range 2000 {
		size := allSizes()[r.Intn(9)]
		f, play := someFunctional(r, size[0], size[1]), someBits(r, size[0]+size[1])
		whole := 1 + r.Intn(impl.MaxWhole)
		b := mustPlayBox(t, size[0], size[1], play, whole)
		worth, ok := impl.WorthOf(f, b)
		one, fine := impl.PlayWorth(size[0], size[1], f, play)
		if !ok || !fine || worth != whole*one {
			t.Fatalf("%s = %d, %d times %d", fmt.Sprintf("worth of %v for %v", f, b), worth, whole, one)
		}
	}
}
