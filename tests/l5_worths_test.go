package tests

import (
	"fmt"
	"math/rand"
	"testing"

	"loop.example/g01141/impl"
)

// signWorthByHand adds what the definition names: numbers times agreements.
func signWorthByHand(m [][]int, b impl.Box) int {
	worth := 0
	for x := range m {
		for y := range m[x] {
			worth += m[x][y] * agreementAt(b, x, y)
		}
	}
	return worth
}

func checkSignWorth(t *testing.T, m [][]int, b impl.Box) int {
	t.Helper()
	worth, ok := impl.SignWorth(m, b)
	wantNumber(t, fmt.Sprintf("SignWorth(%v, %v)", m, b), worth, ok, signWorthByHand(m, b))
	return worth
}

func checkSignFunctional(t *testing.T, m [][]int) [][]int {
	t.Helper()
	var want [][]int
	for _, row := range m {
		for _, n := range row {
			want = append(want, []int{n, -n, -n, n})
		}
	}
	f, ok := impl.SignFunctional(m)
	wantRows(t, fmt.Sprintf("SignFunctional(%v)", m), f, ok, want...)
	return f
}

func TestSignFunctionalsAndWorthsByHand(t *testing.T) {
	f, ok := impl.SignFunctional([][]int{{2, -3}, {0, 9}})
	wantRows(t, "SignFunctional", f, ok, []int{2, -2, -2, 2}, []int{-3, 3, 3, -3}, []int{0, 0, 0, 0}, []int{9, -9, -9, 9})
	worth, ok := impl.SignWorth([][]int{{2, -3}}, box(1, 2, 10, []int{1, 2, 3, 4}, []int{0, 5, 1, 4}))
	wantNumber(t, "SignWorth", worth, ok, 2*0-3*-2)
	worth, ok = impl.SignWorth([][]int{{2}, {-3}}, box(2, 1, 10, []int{1, 2, 1, 6}, []int{0, 5, 1, 4}))
	wantNumber(t, "SignWorth", worth, ok, 2*4-3*-2)
	worth, ok = impl.SignWorth([][]int{{1, 1}, {1, -1}}, equalSums())
	wantNumber(t, "SignWorth", worth, ok, 8)
	worth, ok = impl.SignWorth([][]int{{9, 9}, {9, -9}}, boxByTimes(equalSums(), 500))
	wantNumber(t, "SignWorth", worth, ok, 36000)
}

func TestSignWorthsAreThoseOfTheFunctional(t *testing.T) {
	r := rand.New(rand.NewSource(70))
	for _, size := range allSizes() {
		x, y := size[0], size[1]
		for range 100 {
			m := someSignNumbers(r, x, y)
			f := checkSignFunctional(t, m)
			for _, b := range []impl.Box{someBox(r, x, y), someQuietBox(r, x, y), markedBox(x, y, 1000)} {
				worth, ok := impl.WorthOf(f, b)
				wantNumber(t, fmt.Sprintf("WorthOf(%v, %v)", f, b), worth, ok, checkSignWorth(t, m, b))
			}
		}
		for _, n := range []int{0, 9, -9} {
			checkSignFunctional(t, evenNumbers(x, y, n))
		}
		checkSignFunctional(t, markedSigns(x, y))
	}
}

// The answers of a play are signs; with these, the worth for its PlayBox is the sum, times the Whole.
func TestSignWorthsOfPlays(t *testing.T) {
	r := rand.New(rand.NewSource(71))
	for _, size := range allSizes() {
		x, y := size[0], size[1]
		for _, play := range allLists(x+y, 2) {
			m, whole := someSignNumbers(r, x, y), 1+r.Intn(impl.MaxWhole)
			signs := make([]int, x+y)
			for i := range signs {
				signs[i] = 1 - 2*play[i]
			}
			worth := checkSignWorth(t, m, mustPlayBox(t, x, y, play, whole))
			bias, ok := impl.SignBias(m)
			if sum := sumWithSigns(m, signs[:x], signs[x:]); !ok || worth != whole*sum || sum > bias {
				t.Fatalf("SignWorth(%v) of the play %v is %d, the sum %d and the bias %d", m, play, worth, sum, bias)
			}
		}
	}
}

// No mixture is worth more than the bias, times its Whole; the equal sums are.
func TestNoMixtureIsWorthMoreThanTheBias(t *testing.T) {
	r := rand.New(rand.NewSource(72))
	for _, size := range allSizes() {
		x, y := size[0], size[1]
		for range 100 {
			m := someSignNumbers(r, x, y)
			b := mixtureByHand(x, y, someShares(r, x, y, 1+r.Intn(impl.MaxWhole)))
			bias, ok := impl.SignBias(m)
			if worth := checkSignWorth(t, m, b); !ok || worth > b.Whole*bias {
				t.Fatalf("SignWorth(%v, %v) = %d, and the bias is %d", m, b, worth, bias)
			}
		}
	}
	m := [][]int{{1, 1}, {1, -1}}
	bias, ok := impl.SignBias(m)
	if worth := checkSignWorth(t, m, equalSums()); !ok || worth <= 2*bias {
		t.Errorf("the worth of the equal sums is %d, and the bias %d", worth, bias)
	}
}

func TestGreatestSignWorths(t *testing.T) {
	for _, size := range allSizes() {
		x, y := size[0], size[1]
		equal, different := make([]int, x+y), make([]int, x+y)
		for i := range x {
			different[i] = 1
		}
		for _, n := range []int{9, -9} {
			m := evenNumbers(x, y, n)
			worth, ok := impl.SignWorth(m, playBoxByHand(x, y, equal, 1000))
			wantNumber(t, "SignWorth", worth, ok, n*1000*x*y)
			worth, ok = impl.SignWorth(m, playBoxByHand(x, y, different, 1000))
			wantNumber(t, "SignWorth", worth, ok, -n*1000*x*y)
		}
	}
}

func TestBoxesWithOtherQuestionsHaveNoSignWorth(t *testing.T) {
	for _, size := range allSizes() {
		for _, other := range allSizes() {
			worth, ok := impl.SignWorth(markedSigns(size[0], size[1]), playBoxByHand(other[0], other[1], make([]int, other[0]+other[1]), 1))
			if ok != (size == other) {
				t.Errorf("SignWorth for %v and %v questions = %d, %v", size, other, worth, ok)
			}
			if size != other {
				wantNoNumber(t, "SignWorth", worth, ok)
			}
		}
	}
}

func TestFlawedBoxesHaveNoSignWorth(t *testing.T) {
	for _, f := range flawedBoxes() {
		for _, n := range []int{0, 1} {
			worth, ok := impl.SignWorth(evenNumbers(f.good.X, f.good.Y, n), f.bad)
			wantNoNumber(t, fmt.Sprintf("SignWorth of %v", f.bad), worth, ok)
		}
	}
}
