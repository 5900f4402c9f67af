package tests

import (
	"fmt"
	"math"
	"math/rand"
	"testing"

	"loop.example/g01141/impl"
)

// playBoxByHand has the Whole for the answers of a play, and 0 for all others.
func playBoxByHand(x, y int, play []int, whole int) impl.Box {
	return boxBy(x, y, whole, func(i, j, a, c int) int {
		if play[i] == a && play[x+j] == c {
			return whole
		}
		return 0
	})
}

func TestIsPlay(t *testing.T) {
	for _, size := range allSizes() {
		x, y := size[0], size[1]
		for _, play := range allLists(x+y, 2) {
			if is, ok := impl.IsPlay(x, y, play); !ok || !is {
				t.Errorf("IsPlay(%d, %d, %v) = %v, %v", x, y, play, is, ok)
			}
		}
		for _, list := range badBits(x + y) {
			if is, ok := impl.IsPlay(x, y, list); !ok || is {
				t.Errorf("IsPlay(%d, %d, %v) = %v, %v; want false, true", x, y, list, is, ok)
			}
		}
	}
	for _, size := range badSizes() {
		for length := range 9 {
			if is, ok := impl.IsPlay(size[0], size[1], make([]int, length)); ok || is {
				t.Errorf("IsPlay for %v questions = %v, %v; want false, false", size, is, ok)
			}
		}
	}
}

func TestPlayBox(t *testing.T) {
	for _, size := range allSizes() {
		x, y := size[0], size[1]
		for _, play := range allLists(x+y, 2) {
			for _, whole := range []int{1, 2, 3, 999, impl.MaxWhole} {
				b, ok := impl.PlayBox(x, y, play, whole)
				wantBox(t, fmt.Sprintf("PlayBox(%d, %d, %v, %d)", x, y, play, whole), b, ok, playBoxByHand(x, y, play, whole))
				checkQuiet(t, b)
				if !impl.IsBox(b) || !isQuietByHand(b) {
					t.Fatalf("%v is not quiet", b)
				}
			}
			for _, whole := range append(extremeInts(), 0, -1, -2, -impl.MaxWhole, impl.MaxWhole+1, 2*impl.MaxWhole) {
				b, ok := impl.PlayBox(x, y, play, whole)
				wantNoBox(t, fmt.Sprintf("PlayBox(%d, %d, %v, %d)", x, y, play, whole), b, ok)
			}
		}
		for _, list := range badBits(x + y) {
			b, ok := impl.PlayBox(x, y, list, 5)
			wantNoBox(t, fmt.Sprintf("PlayBox(%d, %d, %v, 5)", x, y, list), b, ok)
		}
	}
	b, ok := impl.PlayBox(2, 2, []int{0, 1, 1, 0}, 3)
	wantBox(t, "PlayBox", b, ok, box(2, 2, 3, []int{0, 3, 0, 0}, []int{3, 0, 0, 0}, []int{0, 0, 0, 3}, []int{0, 0, 3, 0}))
	for _, size := range badSizes() {
		for length := range 9 {
			b, ok := impl.PlayBox(size[0], size[1], make([]int, length), 5)
			wantNoBox(t, fmt.Sprintf("PlayBox of %d answers for %v questions", length, size), b, ok)
		}
	}
}

func TestNoiseBox(t *testing.T) {
	for _, size := range allSizes() {
		x, y := size[0], size[1]
		for part := 1; part <= 250; part++ {
			b, ok := impl.NoiseBox(x, y, part)
			wantBox(t, fmt.Sprintf("NoiseBox(%d, %d, %d)", x, y, part), b, ok, boxBy(x, y, 4*part, func(int, int, int, int) int { return part }))
		}
		for _, part := range append(extremeInts(), 0, -1, -2, -250, 251, 252, 999, 1000, 1001, 1<<62+2, 1<<62+250, 1<<62-1, math.MinInt+250) {
			b, ok := impl.NoiseBox(x, y, part)
			wantNoBox(t, fmt.Sprintf("NoiseBox(%d, %d, %d)", x, y, part), b, ok)
		}
	}
	for _, size := range badSizes() {
		b, ok := impl.NoiseBox(size[0], size[1], 1)
		wantNoBox(t, fmt.Sprintf("NoiseBox for %v questions", size), b, ok)
	}
}

func productByHand(first, second []int, most int) impl.Box {
	return boxBy(len(first), len(second), most*most, func(x, y, a, c int) int {
		part, other := most-first[x], most-second[y]
		if a == 1 {
			part = first[x]
		}
		if c == 1 {
			other = second[y]
		}
		return part * other
	})
}

func checkProduct(t *testing.T, first, second []int, most int) {
	t.Helper()
	b, ok := impl.ProductBox(first, second, most)
	wantBox(t, fmt.Sprintf("ProductBox(%v, %v, %d)", first, second, most), b, ok, productByHand(first, second, most))
	if !impl.IsBox(b) || !isQuietByHand(b) {
		t.Fatalf("%v is not quiet", b)
	}
}

func TestProductBox(t *testing.T) {
	b, ok := impl.ProductBox([]int{1}, []int{2}, 3)
	wantBox(t, "ProductBox", b, ok, box(1, 1, 9, []int{2, 4, 1, 2}))
	b, ok = impl.ProductBox([]int{0, 1}, []int{1, 0}, 1)
	wantBox(t, "ProductBox", b, ok, box(2, 2, 1, []int{0, 1, 0, 0}, []int{1, 0, 0, 0}, []int{0, 0, 0, 1}, []int{0, 0, 1, 0}))
	for most := 1; most <= 31; most++ {
		for p := 0; p <= most; p++ {
			for q := 0; q <= most; q++ {
				checkProduct(t, []int{p}, []int{q}, most)
			}
		}
	}
	r := rand.New(rand.NewSource(5))
	for range 3000 {
		size, most := allSizes()[r.Intn(9)], 1+r.Intn(31)
		first, second := make([]int, size[0]), make([]int, size[1])
		for i := range first {
			first[i] = r.Intn(most + 1)
		}
		for i := range second {
			second[i] = r.Intn(most + 1)
		}
		checkProduct(t, first, second, most)
	}
}

func wantNoProduct(t *testing.T, first, second []int, most int) {
	t.Helper()
	b, ok := impl.ProductBox(first, second, most)
	wantNoBox(t, fmt.Sprintf("ProductBox(%v, %v, %d)", first, second, most), b, ok)
}

func TestProductBoxOfWrongNumbers(t *testing.T) {
	for _, most := range append(extremeInts(), 0, -1, -2, -31, 32, 33, 1000, 1<<32+1) {
		for _, n := range []int{0, 1, -1, most} {
			wantNoProduct(t, []int{n}, []int{n}, most)
			wantNoProduct(t, []int{0}, []int{n}, most)
			wantNoProduct(t, []int{n}, []int{0, 0, 0}, most)
		}
	}
	for _, most := range []int{1, 5, 31} {
		for _, n := range append(extremeInts(), -1, -2, most+1, most+2, 2*most+1) {
			for place := range 3 {
				list := []int{0, most, most / 2}
				list[place] = n
				wantNoProduct(t, list, []int{0}, most)
				wantNoProduct(t, []int{most}, list, most)
				wantNoProduct(t, list, list, most)
			}
		}
		for _, list := range [][]int{nil, {}, make([]int, 4), make([]int, 5), make([]int, 100)} {
			wantNoProduct(t, list, []int{0}, most)
			wantNoProduct(t, []int{0, 1, 1}, list, most)
			wantNoProduct(t, list, list, most)
		}
	}
}

// With these numbers, which are far beyond most, all products wrap around to those of a Box.
func TestProductBoxOfNumbersThatWrapAround(t *testing.T) {
	for _, most := range []int{2, 4, 8, 16, 30} {
		for _, n := range append(extremeInts(), math.MinInt+most, math.MinInt/2, 1<<62+most, 1<<61+most, 1<<60, 1<<60+most) {
			for other := 0; other <= most; other++ {
				wantNoProduct(t, []int{n}, []int{other}, most)
				wantNoProduct(t, []int{other}, []int{n}, most)
				wantNoProduct(t, []int{other, n}, []int{other, other}, most)
				wantNoProduct(t, []int{other, other}, []int{other, n}, most)
			}
		}
	}
}

func checkMix(t *testing.T, a, b impl.Box) {
	t.Helper()
	mix, ok := impl.MixBoxes(a, b)
	what := fmt.Sprintf("MixBoxes(%v, %v)", a, b)
	if a.X != b.X || a.Y != b.Y || a.Whole+b.Whole > impl.MaxWhole {
		wantNoBox(t, what, mix, ok)
		return
	}
	wantBox(t, what, mix, ok, boxBy(a.X, a.Y, a.Whole+b.Whole, func(x, y, c, d int) int {
		return numberAt(a, x, y, c, d) + numberAt(b, x, y, c, d)
	}))
	if isQuietByHand(a) && isQuietByHand(b) && !isQuietByHand(mix) {
		t.Fatalf("%v is not quiet", mix)
	}
}

func TestMixBoxes(t *testing.T) {
	var small []impl.Box
	for _, size := range allSizes() {
		small = append(small, markedBox(size[0], size[1], 100), mustPlayBox(t, size[0], size[1], make([]int, size[0]+size[1]), 3))
	}
	for whole := 1; whole <= 3; whole++ {
		small = append(small, allBoxes(1, 1, whole)...)
	}
	small = append(append(append(small, allBoxes(2, 1, 1)...), allBoxes(1, 2, 1)...), allBoxes(1, 2, 2)...)
	for _, a := range small {
		for _, b := range small {
			checkMix(t, a, b)
		}
	}
	r := rand.New(rand.NewSource(6))
	for range 3000 {
		size := allSizes()[r.Intn(9)]
		checkMix(t, someBox(r, size[0], size[1]), someBox(r, size[0], size[1]))
		checkMix(t, someQuietBox(r, size[0], size[1]), someQuietBox(r, size[0], size[1]))
	}
}

func TestMixBoxesUpToMaxWhole(t *testing.T) {
	r := rand.New(rand.NewSource(7))
	for _, size := range allSizes() {
		play, other := someBits(r, size[0]+size[1]), someBits(r, size[0]+size[1])
		for whole := 1; whole <= impl.MaxWhole; whole++ {
			for rest := max(1, impl.MaxWhole-whole-1); rest <= min(impl.MaxWhole-whole+2, impl.MaxWhole); rest++ {
				checkMix(t, playBoxByHand(size[0], size[1], play, whole), playBoxByHand(size[0], size[1], other, rest))
			}
		}
	}
}

func checkScale(t *testing.T, b impl.Box, k int) {
	t.Helper()
	scaled, ok := impl.ScaleBox(b, k)
	what := fmt.Sprintf("ScaleBox(%v, %d)", b, k)
	if k < 1 || k > impl.MaxWhole/b.Whole {
		wantNoBox(t, what, scaled, ok)
		return
	}
	wantBox(t, what, scaled, ok, boxBy(b.X, b.Y, k*b.Whole, func(x, y, a, c int) int { return k * numberAt(b, x, y, a, c) }))
}

func TestScaleBox(t *testing.T) {
	r := rand.New(rand.NewSource(8))
	for _, size := range allSizes() {
		for whole := 1; whole <= impl.MaxWhole; whole++ {
			b := boxBy(size[0], size[1], whole, func(x, y, a, c int) int { return whole * (1 - a) * c })
			b.Rows[r.Intn(len(b.Rows))] = someRow(r, whole)
			for _, k := range []int{1, 2, impl.MaxWhole/whole - 1, impl.MaxWhole / whole, impl.MaxWhole/whole + 1, impl.MaxWhole/whole + 2} {
				checkScale(t, b, k)
			}
		}
	}
	for range 2000 {
		size := allSizes()[r.Intn(9)]
		checkScale(t, someBox(r, size[0], size[1]), r.Intn(20)-2)
	}
}

// With these factors, products of the Whole and of all numbers wrap around to small ones.
func TestScaleBoxByExtremeFactors(t *testing.T) {
	for whole := 1; whole <= 64; whole++ {
		b := playBoxByHand(2, 2, []int{0, 1, 1, 0}, whole)
		for _, k := range append(extremeInts(), 0, -1, -2, -1000, 1001, 1<<58+1, 1<<59+1, 1<<60+1, 1<<60+7, 1<<62+3, math.MinInt+3, -1<<62+1, -1<<60+1) {
			checkScale(t, b, k)
		}
	}
}

// leastByHand tries all Wholes from 1 on.
func leastByHand(b impl.Box) impl.Box {
	for whole := 1; ; whole++ {
		fits := true
		for _, row := range b.Rows {
			for _, n := range row {
				fits = fits && n*whole%b.Whole == 0
			}
		}
		if fits {
			return boxBy(b.X, b.Y, whole, func(x, y, a, c int) int { return numberAt(b, x, y, a, c) * whole / b.Whole })
		}
	}
}

func checkReduce(t *testing.T, b impl.Box) {
	t.Helper()
	reduced, ok := impl.ReduceBox(b)
	wantBox(t, fmt.Sprintf("ReduceBox(%v)", b), reduced, ok, leastByHand(b))
	if alike, ok := impl.AreAlike(b, reduced); !ok || !alike {
		t.Fatalf("%v and %v are not alike", b, reduced)
	}
}

func TestReduceBox(t *testing.T) {
	for _, c := range []struct{ x, y, whole int }{{1, 1, 1}, {1, 1, 6}, {1, 1, 12}, {1, 2, 4}, {2, 1, 6}, {2, 2, 2}, {3, 1, 2}} {
		for _, b := range allBoxes(c.x, c.y, c.whole) {
			checkReduce(t, b)
		}
	}
	r := rand.New(rand.NewSource(9))
	for range 2000 {
		size := allSizes()[r.Intn(9)]
		b := someBox(r, size[0], size[1])
		checkReduce(t, b)
		least := leastByHand(b)
		scaled, ok := impl.ScaleBox(least, 1+r.Intn(impl.MaxWhole/least.Whole))
		if !ok {
			t.Fatalf("ScaleBox(%v) fails", least)
		}
		checkReduce(t, scaled)
	}
	for _, size := range allSizes() {
		for _, whole := range []int{1, 2, 997, 999, 1000} {
			checkReduce(t, playBoxByHand(size[0], size[1], make([]int, size[0]+size[1]), whole))
		}
	}
}

// A single number of the last row keeps a Box from being reduced further.
func TestReduceBoxLooksAtAllNumbers(t *testing.T) {
	for _, size := range allSizes() {
		for place := range size[0] * size[1] {
			for at := range 4 {
				b := boxBy(size[0], size[1], 60, func(int, int, int, int) int { return 15 })
				b.Rows[place][at], b.Rows[place][(at+1)%4] = 14, 16
				b.Rows[place][(at+2)%4], b.Rows[place][(at+3)%4] = 14, 16
				checkReduce(t, b)
				b = playBoxByHand(size[0], size[1], make([]int, size[0]+size[1]), 60)
				b.Rows[place] = []int{20, 20, 20, 20}
				b.Rows[place][at] = 0
				checkReduce(t, b)
			}
		}
	}
}
