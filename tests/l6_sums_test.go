package tests

import (
	"fmt"
	"math/rand"
	"slices"
	"testing"

	"loop.example/g01141/impl"
)

func checkEightSums(t *testing.T, b impl.Box) []int {
	t.Helper()
	sums, ok := impl.EightSums(b)
	wantList(t, fmt.Sprintf("EightSums(%v)", b), sums, ok, eightSumsByHand(b)...)
	return sums
}

func TestEightSumsByHand(t *testing.T) {
	sums, ok := impl.EightSums(equalSums())
	wantList(t, "EightSums of the equal sums", sums, ok, 8, -8, 0, 0, 0, 0, 0, 0)
	// The agreements are 2, 4, 8 and 16, so that each sum, 30 less 2 times those with minus, tells which ones these are.
	b := box(2, 2, 16, []int{5, 4, 3, 4}, []int{3, 6, 0, 7}, []int{12, 0, 4, 0}, []int{7, 0, 0, 9})
	sums, ok = impl.EightSums(b)
	wantList(t, "EightSums", sums, ok, 30-2*16, 30-2*14, 30-2*4, 30-2*26, 30-2*8, 30-2*22, 30-2*28, 30-2*2)
	// A loud Box can have sums of 4 times the Whole that are not those of an equal-sum box.
	loud := box(2, 2, 1000, []int{1000, 0, 0, 0}, []int{1000, 0, 0, 0}, []int{1000, 0, 0, 0}, []int{0, 1000, 0, 0})
	sums, ok = impl.EightSums(loud)
	wantList(t, "EightSums of a loud Box", sums, ok, 4000, -4000, 0, 0, 0, 0, 0, 0)
	noise := box(2, 2, 4, []int{1, 1, 1, 1}, []int{1, 1, 1, 1}, []int{1, 1, 1, 1}, []int{1, 1, 1, 1})
	sums, ok = impl.EightSums(noise)
	wantList(t, "EightSums of noise", sums, ok, make([]int, 8)...)
}

// The k-th sum of the equal-sum box k is 4 times the Whole, and the greatest one.
func TestEightSumsOfEqualSumBoxes(t *testing.T) {
	for k := range impl.SumKinds {
		for _, times := range []int{1, 2, 7, 499, 500} {
			sums := checkEightSums(t, boxByTimes(sumBoxByHand(k), times))
			for other, sum := range sums {
				if other == k && sum != 8*times || other != k && sum >= sums[k] {
					t.Errorf("the sums of the equal-sum box %d, times %d: %v", k, times, sums)
				}
			}
		}
	}
}

func TestEightSumsOfPlayBoxes(t *testing.T) {
	for _, play := range allLists(4, 2) {
		for _, whole := range []int{1, 2, 3, 999, impl.MaxWhole} {
			great := 0
			for _, sum := range checkEightSums(t, mustPlayBox(t, 2, 2, play, whole)) {
				if sum != 2*whole && sum != -2*whole {
					t.Errorf("a sum of the play %v with the Whole %d is %d", play, whole, sum)
				}
				great += sum
			}
			// Each sum stands beside its opposite number.
			if great != 0 {
				t.Errorf("the sums of the play %v with the Whole %d add up to %d", play, whole, great)
			}
		}
	}
}

func TestEightSumsOfAnyBoxes(t *testing.T) {
	r := rand.New(rand.NewSource(90))
	for _, whole := range []int{1, 2} {
		for _, b := range allBoxes(2, 2, whole) {
			checkEightSums(t, b)
		}
	}
	for _, b := range loudOfTwo() {
		checkEightSums(t, b)
	}
	for range 3000 {
		checkEightSums(t, someBox(r, 2, 2))
		checkEightSums(t, someQuietOfTwo(r))
	}
}

// They count the pairs of answers that have 1 in the equal-sum box, less the others.
func TestEightSumsAreWorths(t *testing.T) {
	r := rand.New(rand.NewSource(91))
	for k := range impl.SumKinds {
		e, ok := impl.EqualSumBox(k)
		if !ok {
			t.Fatalf("EqualSumBox(%d) fails", k)
		}
		f := copyRows(e.Rows)
		for _, factors := range f {
			for i := range factors {
				factors[i] = 2*factors[i] - 1
			}
		}
		for range 200 {
			b := []impl.Box{someBox(r, 2, 2), someQuietOfTwo(r)}[r.Intn(2)]
			worth, ok := impl.WorthOf(f, b)
			wantNumber(t, fmt.Sprintf("the worth that is the sum %d of %v", k, b), worth, ok, checkEightSums(t, b)[k])
		}
	}
}

// The greatest of them is the GreatestSum of chapter 3, as they are the four sums and their opposite numbers.
func TestEightSumsTellWhatIsLocal(t *testing.T) {
	r := rand.New(rand.NewSource(92))
	local, others := 0, 0
	check := func(b impl.Box) {
		greatest := slices.Max(checkEightSums(t, b))
		sum, ok := impl.GreatestSum(b)
		wantNumber(t, fmt.Sprintf("GreatestSum(%v)", b), sum, ok, greatest)
		if isLocalByShares(b) != (greatest <= 2*b.Whole) {
			t.Fatalf("the greatest of the eight sums of %v is %d", b, greatest)
		}
		if greatest <= 2*b.Whole {
			local++
		} else {
			others++
		}
	}
	for whole := 1; whole <= 3; whole++ {
		for _, b := range allQuietBoxes(2, 2, whole) {
			check(b)
		}
	}
	for range 1000 {
		check(someQuietOfTwo(r))
	}
	if local < 1000 || others < 300 {
		t.Errorf("%d Boxes were local, and %d were not", local, others)
	}
}
