package tests

import (
	"fmt"
	"math/rand"
	"testing"

	"loop.example/g01141/impl"
)

// sumFunctionalByHand asks for each row whether it is one of the four.
func sumFunctionalByHand(x, y int, p sumPlace) [][]int {
	f := noFactors(x * y)
	for place := range 4 {
		row := f[p.first[place/2]*y+p.second[place%2]]
		for i, sign := range []int{1, -1, -1, 1} {
			row[i] = sign
			if place == p.m {
				row[i] = -sign
			}
		}
	}
	return f
}

func checkSums(t *testing.T, b impl.Box) {
	t.Helper()
	var first sumPlace
	found := false
	greatest := greatestSumByHand(b)
	for _, p := range placesOfSums(b.X, b.Y) {
		want := sumByHand(b, p)
		sum, ok := impl.SumOf(b, p.first, p.second, p.m)
		wantNumber(t, fmt.Sprintf("SumOf(%v, %v)", b, p), sum, ok, want)
		if !found && max(want, -want) == greatest {
			first, found = p, true
		}
	}
	got, ok := impl.GreatestSum(b)
	wantNumber(t, fmt.Sprintf("GreatestSum(%v)", b), got, ok, greatest)
	one, two, m, ok := impl.FirstSum(b)
	if ok != found || (sumPlace{one, two, m}) != first {
		t.Fatalf("FirstSum(%v) = %v, %v, %d, %v; want %v, %v", b, one, two, m, ok, first, found)
	}
}

func TestSumsByHand(t *testing.T) {
	for m, want := range []int{0, 0, 0, 8} {
		sum, ok := impl.SumOf(equalSums(), [2]int{0, 1}, [2]int{0, 1}, m)
		wantNumber(t, fmt.Sprintf("SumOf with %d", m), sum, ok, want)
		f, ok := impl.SumFunctional(2, 2, [2]int{0, 1}, [2]int{0, 1}, m)
		rows := [][]int{{1, -1, -1, 1}, {1, -1, -1, 1}, {1, -1, -1, 1}, {1, -1, -1, 1}}
		rows[m] = []int{-1, 1, 1, -1}
		wantRows(t, fmt.Sprintf("SumFunctional with %d", m), f, ok, rows...)
	}
	f, ok := impl.SumFunctional(2, 3, [2]int{0, 1}, [2]int{0, 2}, 1)
	plus, minus, none := []int{1, -1, -1, 1}, []int{-1, 1, 1, -1}, []int{0, 0, 0, 0}
	wantRows(t, "SumFunctional", f, ok, plus, none, minus, plus, none, plus)
	f, ok = impl.SumFunctional(3, 2, [2]int{1, 2}, [2]int{0, 1}, 2)
	wantRows(t, "SumFunctional", f, ok, none, none, plus, plus, minus, plus)
	checkSums(t, equalSums())
	one, two, m, ok := impl.FirstSum(equalSums())
	if !ok || one != [2]int{0, 1} || two != [2]int{0, 1} || m != 3 {
		t.Errorf("FirstSum = %v, %v, %d, %v", one, two, m, ok)
	}
}

// The agreements are 4, -2, 6 and 10, or their opposite numbers.
func TestGreatestSumsByHand(t *testing.T) {
	plus := box(2, 2, 10, []int{6, 2, 1, 1}, []int{1, 4, 2, 3}, []int{5, 0, 2, 3}, []int{4, 0, 0, 6})
	minus := box(2, 2, 10, []int{1, 1, 6, 2}, []int{2, 3, 1, 4}, []int{2, 3, 5, 0}, []int{0, 6, 4, 0})
	for m, want := range []int{10, 22, 6, -2} {
		sum, ok := impl.SumOf(plus, [2]int{0, 1}, [2]int{0, 1}, m)
		wantNumber(t, fmt.Sprintf("SumOf with %d", m), sum, ok, want)
		sum, ok = impl.SumOf(minus, [2]int{0, 1}, [2]int{0, 1}, m)
		wantNumber(t, fmt.Sprintf("SumOf with %d", m), sum, ok, -want)
	}
	for _, b := range []impl.Box{plus, minus} {
		greatest, ok := impl.GreatestSum(b)
		wantNumber(t, fmt.Sprintf("GreatestSum(%v)", b), greatest, ok, 22)
		first, second, m, ok := impl.FirstSum(b)
		if !ok || first != [2]int{0, 1} || second != [2]int{0, 1} || m != 1 {
			t.Errorf("FirstSum(%v) = %v, %v, %d, %v", b, first, second, m, ok)
		}
	}
}

func TestSums(t *testing.T) {
	r := rand.New(rand.NewSource(24))
	for _, size := range allSizes() {
		x, y := size[0], size[1]
		checkSums(t, markedBox(x, y, 1000))
		for range 200 {
			checkSums(t, someBox(r, x, y))
			checkSums(t, anyQuietBox(r, x, y, 1+r.Intn(20)))
			checkSums(t, mixtureByHand(x, y, someShares(r, x, y, 1+r.Intn(4))))
		}
	}
	for _, b := range allBoxes(2, 2, 1) {
		checkSums(t, b)
	}
}

// The first one of all sums that are as great is found, also where all of them are 0.
func TestFirstSumsAmongMany(t *testing.T) {
	for _, p := range placesOfSums(3, 3) {
		for _, sign := range []int{1, -1} {
			// Here the agreements are 0 but for those in the sum, so that it is 400 times the sign.
			signs := sumFunctionalByHand(3, 3, p)
			b := boxBy(3, 3, 200, func(x, y, a, c int) int { return 50 + 25*sign*signs[3*x+y][2*a+c] })
			first, second, m, ok := impl.FirstSum(b)
			if !ok || (sumPlace{first, second, m}) != p {
				t.Errorf("FirstSum(%v) = %v, %v, %d, %v; want %v, true", b, first, second, m, ok, p)
			}
			sum, ok := impl.SumOf(b, p.first, p.second, p.m)
			wantNumber(t, fmt.Sprintf("SumOf(%v, %v)", b, p), sum, ok, 400*sign)
		}
	}
	for _, size := range allSizes() {
		noise, ok := impl.NoiseBox(size[0], size[1], 7)
		greatest, fine := impl.GreatestSum(noise)
		wantNumber(t, "GreatestSum of noise", greatest, ok && fine, 0)
		first, second, m, ok := impl.FirstSum(noise)
		if some := size[0] > 1 && size[1] > 1; ok != some || some && (first != [2]int{0, 1} || second != [2]int{0, 1}) || m != 0 {
			t.Errorf("FirstSum for %v questions = %v, %v, %d, %v", size, first, second, m, ok)
		}
	}
}

func TestOneQuestionHasNoSums(t *testing.T) {
	for _, size := range [][2]int{{1, 1}, {1, 2}, {1, 3}, {2, 1}, {3, 1}} {
		for _, b := range []impl.Box{markedBox(size[0], size[1], 1000), playBoxByHand(size[0], size[1], make([]int, size[0]+size[1]), 9)} {
			greatest, ok := impl.GreatestSum(b)
			wantNumber(t, fmt.Sprintf("GreatestSum(%v)", b), greatest, ok, 0)
			first, second, m, ok := impl.FirstSum(b)
			if ok || first != [2]int{} || second != [2]int{} || m != 0 {
				t.Errorf("FirstSum(%v) = %v, %v, %d, %v", b, first, second, m, ok)
			}
			for _, pair := range [][2]int{{0, 1}, {0, 2}, {1, 2}, {0, 0}} {
				for _, other := range [][2]int{{0, 1}, {0, 2}, {1, 2}, {0, 0}} {
					wantNoSum(t, b, sumPlace{pair, other, 3})
				}
			}
		}
	}
}

func wantNoSum(t *testing.T, b impl.Box, p sumPlace) {
	t.Helper()
	sum, ok := impl.SumOf(b, p.first, p.second, p.m)
	wantNoNumber(t, fmt.Sprintf("SumOf(%v, %v)", b, p), sum, ok)
	f, ok := impl.SumFunctional(b.X, b.Y, p.first, p.second, p.m)
	wantNoRows(t, fmt.Sprintf("SumFunctional(%d, %d, %v)", b.X, b.Y, p), f, ok)
}

// Beside two questions in ascending order, there is nothing that names a sum.
func TestSumsOfWrongQuestions(t *testing.T) {
	numbers := append(extremeInts(), -3, -2, -1, 0, 1, 2, 3, 4, 5)
	for _, size := range allSizes() {
		b := markedBox(size[0], size[1], 1000)
		for _, one := range numbers {
			for _, two := range numbers {
				pair := [2]int{one, two}
				if one < 0 || one >= two || two >= b.X {
					wantNoSum(t, b, sumPlace{pair, [2]int{0, 1}, 0})
					wantNoSum(t, b, sumPlace{pair, pair, 3})
				}
				if one < 0 || one >= two || two >= b.Y {
					wantNoSum(t, b, sumPlace{[2]int{0, 1}, pair, 0})
					wantNoSum(t, b, sumPlace{pair, pair, 3})
				}
			}
		}
		for _, m := range append(extremeInts(), -4, -2, -1, 4, 5, 6, 7, 8, 1<<32+3) {
			for _, p := range placesOfSums(b.X, b.Y) {
				wantNoSum(t, b, sumPlace{p.first, p.second, m})
			}
		}
	}
}

func TestSumFunctionals(t *testing.T) {
	r := rand.New(rand.NewSource(25))
	for _, size := range allSizes() {
		x, y := size[0], size[1]
		for _, p := range placesOfSums(x, y) {
			f, ok := impl.SumFunctional(x, y, p.first, p.second, p.m)
			wantRows(t, fmt.Sprintf("SumFunctional(%d, %d, %v)", x, y, p), f, ok, sumFunctionalByHand(x, y, p)...)
			value, ok := impl.LocalValue(x, y, f)
			wantNumber(t, fmt.Sprintf("LocalValue(%d, %d, %v)", x, y, f), value, ok, 2)
			for range 20 {
				b := someBox(r, x, y)
				worth, ok := impl.WorthOf(f, b)
				sum, fine := impl.SumOf(b, p.first, p.second, p.m)
				if !ok || !fine || worth != sum || sum != sumByHand(b, p) {
					t.Fatalf("sum %v of %v: worth %d, sum %d", p, b, worth, sum)
				}
			}
		}
	}
	for _, size := range badSizes() {
		for _, p := range placesOfSums(3, 3) {
			f, ok := impl.SumFunctional(size[0], size[1], p.first, p.second, p.m)
			wantNoRows(t, fmt.Sprintf("SumFunctional for %v questions", size), f, ok)
		}
	}
}

// No play has a sum of more than 2, and each has 2 or -2.
func TestSumsOfPlays(t *testing.T) {
	for _, size := range allSizes() {
		x, y := size[0], size[1]
		for _, play := range allLists(x+y, 2) {
			b := playBoxByHand(x, y, play, 3)
			for _, p := range placesOfSums(x, y) {
				if sum, ok := impl.SumOf(b, p.first, p.second, p.m); !ok || sum != 6 && sum != -6 {
					t.Errorf("SumOf(%v, %v) = %d, %v", b, p, sum, ok)
				}
			}
		}
	}
}
