package tests

import (
	"fmt"
	"math/rand"
	"slices"
	"testing"

	"loop.example/g01141/impl"
)

func sharedByHand(n int, codes [][]int) []int {
	sums := make([]int, n)
	for _, code := range codes {
		for i, score := range codeScoresByHand(n, code) {
			sums[i] += score
		}
	}
	return sums
}

func wantShared(t *testing.T, n int, codes [][]int, want ...int) {
	t.Helper()
	sums, ok := impl.SharedScores(n, codes)
	wantList(t, fmt.Sprintf("SharedScores(%d, %v)", n, codes), sums, ok, want...)
}

func wantNotShared(t *testing.T, n int, codes [][]int) {
	t.Helper()
	sums, ok := impl.SharedScores(n, codes)
	wantNoList(t, fmt.Sprintf("SharedScores(%d, %v)", n, codes), sums, ok)
}

// someCodes are so many of n bits, some of them perhaps several times.
func someCodes(r *rand.Rand, n, count int) [][]int {
	var codes [][]int
	for range count {
		codes = append(codes, someBits(r, countStrings(n)))
	}
	return codes
}

func TestSharedScoresByHand(t *testing.T) {
	wantShared(t, 1, [][]int{{0, 1}}, 2)
	wantShared(t, 1, [][]int{{0, 0}, {0, 1}, {1, 0}, {1, 1}}, 1+2+2+1)
	wantShared(t, 2, [][]int{{0, 0, 1, 1}}, 2, 4)
	wantShared(t, 2, [][]int{{0, 1, 0, 1}, {0, 0, 1, 1}}, 6, 6)
	wantShared(t, 2, [][]int{{0, 0, 1, 1}, {0, 0, 0, 1}, {0, 0, 1, 1}}, 2+3+2, 4+3+4)
	wantShared(t, 3, [][]int{{0, 0, 0, 0, 1, 0, 1, 1}, {0, 0, 0, 1, 0, 1, 1, 1}}, 5+6, 5+6, 7+6)
}

// One code alone has its own scores.
func TestSharedScoresOfOneCode(t *testing.T) {
	for n := 1; n <= 3; n++ {
		for _, code := range allCodes(n) {
			wantShared(t, n, [][]int{code}, codeScoresByHand(n, code)...)
		}
	}
}

func TestSharedScoresOfManyCodes(t *testing.T) {
	r := rand.New(rand.NewSource(901))
	for n := 1; n <= 3; n++ {
		best, ok := impl.BestCode(n)
		if !ok {
			t.Fatalf("BestCode(%d) fails", n)
		}
		most := mustCodeTotal(t, n, best)
		for _, count := range []int{1, 2, 3, 4, 5, 10, 16, 17, 99, 100, 500, impl.MaxWhole - 1, impl.MaxWhole} {
			codes := someCodes(r, n, count)
			wantShared(t, n, codes, sharedByHand(n, codes)...)
			if sum := sumOf(sharedByHand(n, codes)); sum > count*most {
				t.Errorf("%d codes of %d bits have the sum %d, and the best one %d", count, n, sum, most)
			}
		}
		// As often as there may be codes, the best one has just that sum.
		sums, ok := impl.SharedScores(n, slices.Repeat([][]int{best}, impl.MaxWhole))
		if !ok || sumOf(sums) != impl.MaxWhole*most {
			t.Errorf("the best code of %d bits, %d times: %v, %v", n, impl.MaxWhole, sums, ok)
		}
	}
}

// No two codes together, in either order, are better than the best one.
func TestSharedScoresOfTwoCodes(t *testing.T) {
	for n := 1; n <= 2; n++ {
		for _, one := range allCodes(n) {
			for _, two := range allCodes(n) {
				sums := sharedByHand(n, [][]int{one, two})
				wantShared(t, n, [][]int{one, two}, sums...)
				if sumOf(sums) > 2*[]int{2, 6}[n-1] {
					t.Errorf("%v and %v: %v", one, two, sums)
				}
			}
		}
	}
}

// The bit codes, one for each bit, have the same score for each bit.
func TestSharedScoresOfBitCodes(t *testing.T) {
	for n := 1; n <= 3; n++ {
		var codes [][]int
		for i := range n {
			code, ok := impl.BitCode(n, i)
			if !ok {
				t.Fatalf("BitCode(%d, %d) fails", n, i)
			}
			codes = append(codes, code)
		}
		// Each bit is sent once, and else guessed as well as without a message.
		want := slices.Repeat([]int{countStrings(n) + (n-1)*countStrings(n)/2}, n)
		wantShared(t, n, codes, want...)
		slices.Reverse(codes)
		wantShared(t, n, codes, want...)
	}
}

func TestNumbersOfSharedCodes(t *testing.T) {
	r := rand.New(rand.NewSource(902))
	for n := 1; n <= 3; n++ {
		wantNotShared(t, n, nil)
		wantNotShared(t, n, [][]int{})
		for _, count := range []int{impl.MaxWhole + 1, impl.MaxWhole + 2, 2 * impl.MaxWhole, 5000} {
			wantNotShared(t, n, someCodes(r, n, count))
		}
	}
}

// One code that is not valid is enough, wherever it stands.
func TestNoFlawedCodeIsShared(t *testing.T) {
	r := rand.New(rand.NewSource(903))
	for n := 1; n <= 3; n++ {
		for _, bad := range flawedCodes(n) {
			wantNotShared(t, n, [][]int{bad})
			for _, count := range []int{2, 3, 7} {
				codes := someCodes(r, n, count)
				wantShared(t, n, codes, sharedByHand(n, codes)...)
				for _, place := range []int{0, r.Intn(count), count - 1} {
					flawed := slices.Clone(codes)
					flawed[place] = bad
					wantNotShared(t, n, flawed)
				}
			}
		}
		codes := someCodes(r, n, impl.MaxWhole)
		codes[impl.MaxWhole-1] = nil
		wantNotShared(t, n, codes)
	}
}
