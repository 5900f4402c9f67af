package tests

import (
	"fmt"
	"math/rand"
	"testing"

	"loop.example/g01141/impl"
)

func wantSum(t *testing.T, a, b impl.Box, want impl.Box) {
	t.Helper()
	sum, ok := impl.SumBoxes(a, b)
	wantBox(t, fmt.Sprintf("SumBoxes(%v, %v)", a, b), sum, ok, want)
}

func wantNoSumBox(t *testing.T, a, b impl.Box) {
	t.Helper()
	sum, ok := impl.SumBoxes(a, b)
	wantNoBox(t, fmt.Sprintf("SumBoxes(%v, %v)", a, b), sum, ok)
}

func wantRepeat(t *testing.T, b impl.Box, n int, want impl.Box) {
	t.Helper()
	sum, ok := impl.RepeatSum(b, n)
	wantBox(t, fmt.Sprintf("RepeatSum(%v, %d)", b, n), sum, ok, want)
}

func wantNoRepeat(t *testing.T, b impl.Box, n int) {
	t.Helper()
	sum, ok := impl.RepeatSum(b, n)
	wantNoBox(t, fmt.Sprintf("RepeatSum(%v, %d)", b, n), sum, ok)
}

// sumBoxesByHand goes over all answers of both Boxes to the own questions.
func sumBoxesByHand(a, b impl.Box) impl.Box {
	return boxBy(2, 2, a.Whole*b.Whole, func(x, y, said, other int) int {
		n := 0
		for _, way := range allLists(4, 2) {
			if (way[0]+way[2])%2 == said && (way[1]+way[3])%2 == other {
				n += numberAt(a, x, y, way[0], way[1]) * numberAt(b, x, y, way[2], way[3])
			}
		}
		return n
	})
}

func TestSumBoxesByHand(t *testing.T) {
	even, odd := []int{2, 0, 0, 2}, []int{0, 2, 2, 0}
	wantSum(t, equalSums(), equalSums(), box(2, 2, 4, even, even, even, even))
	wantSum(t, equalSums(), sumBoxByHand(1), box(2, 2, 4, odd, odd, odd, odd))
	wantSum(t, playBoxByHand(2, 2, []int{0, 1, 1, 0}, 2), equalSums(), box(2, 2, 4, odd, even, even, even))
	wantSum(t, playBoxByHand(2, 2, []int{0, 1, 1, 0}, 2), playBoxByHand(2, 2, []int{1, 1, 0, 0}, 3), playBoxByHand(2, 2, []int{1, 0, 1, 0}, 6))
	noise, ok := impl.NoiseBox(2, 2, 5)
	wantBox(t, "NoiseBox(2, 2, 5)", noise, ok, boxBy(2, 2, 20, func(int, int, int, int) int { return 5 }))
	wantSum(t, noise, markedBox(2, 2, 50), boxBy(2, 2, 1000, func(int, int, int, int) int { return 250 }))
	// Rows of other numbers, none of which are the same.
	zero := []int{10, 0, 0, 0}
	a, b := box(2, 2, 10, []int{1, 2, 3, 4}, zero, zero, zero), box(2, 2, 10, []int{0, 1, 3, 6}, zero, zero, zero)
	all := []int{100, 0, 0, 0}
	wantSum(t, a, b, box(2, 2, 100, []int{35, 31, 19, 15}, all, all, all))
}

// checkSum compares the sum with the definitions, its agreements with those of both, and tells whether there is a sum.
func checkSum(t *testing.T, a, b impl.Box) bool {
	t.Helper()
	if a.Whole*b.Whole > impl.MaxWhole {
		wantNoSumBox(t, a, b)
		return false
	}
	wantSum(t, a, b, sumBoxesByHand(a, b))
	wantSum(t, b, a, mustWire(t, a, b, sumRule(), sumRule()))
	agreements := mustAgreements(t, sumBoxesByHand(a, b))
	one, two := mustAgreements(t, a), mustAgreements(t, b)
	for place, agreement := range agreements {
		if agreement != one[place]*two[place] {
			t.Fatalf("the agreements %v of the sum of %v and %v", agreements, one, two)
		}
	}
	return true
}

func TestSumBoxesOfAnyBoxes(t *testing.T) {
	r := rand.New(rand.NewSource(1013))
	some, none := 0, 0
	for range 2000 {
		boxes := []impl.Box{someBox(r, 2, 2), someQuietOfTwo(r), quietOfAtMost(r, 31), boxOfWhole(r, 1+r.Intn(31)), quietOfAtMost(r, 5)}
		if checkSum(t, boxes[r.Intn(5)], boxes[r.Intn(5)]) {
			some++
		} else {
			none++
		}
	}
	if some < 500 || none < 300 {
		t.Errorf("%d sums, and %d are none", some, none)
	}
	for _, a := range loudOfTwo() {
		for _, b := range loudOfTwo() {
			checkSum(t, a, b)
		}
	}
	for _, a := range allBoxes(2, 2, 1) {
		checkSum(t, a, boxOfWhole(r, 1+r.Intn(5)))
	}
}

func TestSumBoxesOfExtremeBoxes(t *testing.T) {
	for _, a := range extremesByHand() {
		for _, b := range extremesByHand() {
			checkSum(t, a, b)
		}
	}
}

func TestWholesOfSums(t *testing.T) {
	r := rand.New(rand.NewSource(1014))
	for _, most := range []int{1, 999, impl.MaxWhole, impl.MaxWhole + 1, impl.MaxWhole + 2, impl.MaxWhole * impl.MaxWhole} {
		for _, wholes := range wholesUpTo(most) {
			if checkSum(t, boxOfWhole(r, wholes[0]), boxOfWhole(r, wholes[1])) != (most <= impl.MaxWhole) {
				t.Errorf("a sum with the Whole %d", most)
			}
		}
	}
}

// Behind one that answers 0 only, a Box is as it is; behind one that answers 1 only, both players say the other answer.
func TestSumsWithPlays(t *testing.T) {
	r := rand.New(rand.NewSource(1015))
	for range 300 {
		b := boxOfWhole(r, 1+r.Intn(impl.MaxWhole))
		for _, play := range allLists(4, 2) {
			flipped, ok := impl.FlipAnswers(b, play)
			sum, done := impl.SumBoxes(playBoxByHand(2, 2, play, 1), b)
			wantBox(t, fmt.Sprintf("the sum of %v and %v", play, b), sum, ok && done, flipped)
		}
	}
}

func TestRepeatsByHand(t *testing.T) {
	even, odd := []int{4, 0, 0, 4}, []int{0, 4, 4, 0}
	wantRepeat(t, equalSums(), 1, equalSums())
	wantRepeat(t, equalSums(), 2, boxBy(2, 2, 4, func(x, y, a, c int) int { return 2 * (1 - (a+c)%2) }))
	wantRepeat(t, equalSums(), 3, box(2, 2, 8, even, even, even, odd))
	wantRepeat(t, playBoxByHand(2, 2, []int{0, 1, 1, 0}, 1), impl.MaxRepeats, playBoxByHand(2, 2, []int{0, 1, 1, 0}, 1))
	wantRepeat(t, playBoxByHand(2, 2, []int{0, 1, 1, 0}, 1), 8, playBoxByHand(2, 2, []int{0, 0, 0, 0}, 1))
	wantRepeat(t, playBoxByHand(2, 2, []int{0, 1, 1, 0}, 2), impl.MaxRepeats, playBoxByHand(2, 2, []int{0, 1, 1, 0}, 512))
	// Equal answers have three more than different ones: 3, 9, 27 and 81 more.
	b := boxBy(2, 2, 5, func(x, y, a, c int) int { return []int{2, 1, 0, 2}[2*a+c] })
	for n, agreement := range []int{3, 9, 27, 81} {
		sum, ok := impl.RepeatSum(b, n+1)
		if !ok {
			t.Fatalf("RepeatSum(%v, %d) fails", b, n+1)
		}
		wantList(t, "its agreements", mustAgreements(t, sum), true, agreement, agreement, agreement, agreement)
	}
	wantNoRepeat(t, b, 5)
}

// checkRepeats compares all repeats of a Box with the definition, and returns the greatest number that there is.
func checkRepeats(t *testing.T, b impl.Box) int {
	t.Helper()
	want := copyBox(b)
	for n := 1; n <= impl.MaxRepeats; n++ {
		if n > 1 {
			want = sumBoxesByHand(want, b)
		}
		if want.Whole > impl.MaxWhole {
			for more := n; more <= impl.MaxRepeats; more++ {
				wantNoRepeat(t, b, more)
			}
			return n - 1
		}
		wantRepeat(t, b, n, want)
		if n > 1 {
			before, ok := impl.RepeatSum(b, n-1)
			if !ok {
				t.Fatalf("RepeatSum(%v, %d) fails", b, n-1)
			}
			wantSum(t, before, b, want)
		}
	}
	return impl.MaxRepeats
}

func TestRepeatsOfEachWhole(t *testing.T) {
	r := rand.New(rand.NewSource(1016))
	for whole := 1; whole <= impl.MaxWhole; whole++ {
		want := 1
		for greatest, n := range map[int]int{1: 9, 2: 9, 3: 6, 4: 4, 5: 4, 7: 3, 10: 3, 31: 2} {
			if whole <= greatest {
				want = max(want, n)
			}
		}
		if n := checkRepeats(t, boxOfWhole(r, whole)); n != want {
			t.Errorf("%d repeats of the Whole %d, not %d", n, whole, want)
		}
	}
}

func TestRepeatsOfAnyBoxes(t *testing.T) {
	r := rand.New(rand.NewSource(1017))
	for _, b := range allBoxes(2, 2, 1) {
		checkRepeats(t, b)
	}
	for _, b := range extremesByHand() {
		checkRepeats(t, b)
		checkRepeats(t, leastByHand(b))
	}
	for range 200 {
		checkRepeats(t, quietOfAtMost(r, 10))
		checkRepeats(t, boxOfWhole(r, 1+r.Intn(10)))
		checkRepeats(t, someBox(r, 2, 2))
	}
}

func TestNoRepeatsOfOtherNumbers(t *testing.T) {
	for _, b := range []impl.Box{playBoxByHand(2, 2, []int{0, 1, 1, 0}, 1), equalSums(), boxByTimes(equalSums(), 500), {}} {
		for _, n := range append(extremeInts(), -10, -9, -2, -1, 0, 10, 11, 18, 100, 1000, 1<<32+1) {
			wantNoRepeat(t, b, n)
		}
	}
}

// The sum of quiet Boxes is quiet, and that of local ones is local.
func TestSumsStayQuietAndLocal(t *testing.T) {
	r := rand.New(rand.NewSource(1018))
	for range 500 {
		sum, ok := impl.SumBoxes(quietOfAtMost(r, 31), quietOfAtMost(r, 31))
		quiet, is := impl.IsQuiet(sum)
		wantReport(t, fmt.Sprintf("IsQuiet(%v)", sum), quiet, ok && is, true)
		sum, ok = impl.SumBoxes(localOfAtMost(r, 31), localOfAtMost(r, 31))
		local, is := impl.IsLocal(sum)
		wantReport(t, fmt.Sprintf("IsLocal(%v)", sum), local, ok && is, true)
	}
}
