package tests

import (
	"fmt"
	"slices"
	"testing"

	"loop.example/g01141/impl"
)

// firstByHand goes over all codes backwards, so that of those that are as good the lexicographically first one is taken last.
func firstByHand(n int, count func(scores []int) int) []int {
	codes := allCodes(n)
	slices.Reverse(codes)
	first, most := []int{}, -1
	for _, code := range codes {
		if counted := count(codeScoresByHand(n, code)); counted >= most {
			first, most = code, counted
		}
	}
	return first
}

func TestBestAndFairCodes(t *testing.T) {
	for n := 1; n <= impl.MaxLetters; n++ {
		best, ok := impl.BestCode(n)
		wantList(t, fmt.Sprintf("BestCode(%d)", n), best, ok, firstByHand(n, sumOf)...)
		fair, ok := impl.FairCode(n)
		wantList(t, fmt.Sprintf("FairCode(%d)", n), fair, ok, firstByHand(n, func(scores []int) int { return slices.Min(scores) })...)
	}
}

// firstBest are the best codes of 1, 2 and 3 bits, which are the fair ones, too: those of the majority.
var firstBest = [][]int{{0, 1}, {0, 0, 0, 1}, {0, 0, 0, 1, 0, 1, 1, 1}}

func TestBestAndFairCodesByHand(t *testing.T) {
	for place, want := range firstBest {
		n := place + 1
		best, ok := impl.BestCode(n)
		wantList(t, fmt.Sprintf("BestCode(%d)", n), best, ok, want...)
		fair, ok := impl.FairCode(n)
		wantList(t, fmt.Sprintf("FairCode(%d)", n), fair, ok, want...)
	}
}

// Promise 9: no code has a greater total than that of the majority.
func TestNoCodeBeatsTheMajority(t *testing.T) {
	for n := 1; n <= impl.MaxLetters; n++ {
		majority, ok := impl.MajorityCode(n)
		if !ok {
			t.Fatalf("MajorityCode(%d) fails", n)
		}
		most := mustCodeTotal(t, n, majority)
		wantNumber(t, fmt.Sprintf("the total of MajorityCode(%d)", n), most, ok, []int{2, 6, 18}[n-1])
		for _, code := range allCodes(n) {
			if total := mustCodeTotal(t, n, code); total > most {
				t.Errorf("CodeTotal(%d, %v) = %d, and %d for the majority", n, code, total, most)
			}
		}
		best, ok := impl.BestCode(n)
		if total := mustCodeTotal(t, n, best); !ok || total != most {
			t.Errorf("CodeTotal(%d, %v) = %d, and %d for the majority", n, best, total, most)
		}
	}
}

func TestMajorityCodes(t *testing.T) {
	for place, want := range firstBest {
		n := place + 1
		code, ok := impl.MajorityCode(n)
		wantList(t, fmt.Sprintf("MajorityCode(%d)", n), code, ok, want...)
		wantList(t, "the majority by hand", codeByHand(n, func(letters []int) bool { return sumOf(letters) > n-sumOf(letters) }), true, want...)
	}
}

func TestParityCodes(t *testing.T) {
	for place, want := range [][]int{{0, 1}, {0, 1, 1, 0}, {0, 1, 1, 0, 1, 0, 0, 1}} {
		n := place + 1
		code, ok := impl.ParityCode(n)
		wantList(t, fmt.Sprintf("ParityCode(%d)", n), code, ok, want...)
		wantList(t, "the parity by hand", codeByHand(n, func(letters []int) bool { return sumOf(letters)%2 == 1 }), true, want...)
	}
}

func TestBitCodes(t *testing.T) {
	for last, codes := range [][][]int{
		{{0, 1}},
		{{0, 1, 0, 1}, {0, 0, 1, 1}},
		{{0, 1, 0, 1, 0, 1, 0, 1}, {0, 0, 1, 1, 0, 0, 1, 1}, {0, 0, 0, 0, 1, 1, 1, 1}},
	} {
		n := last + 1
		for i, want := range codes {
			code, ok := impl.BitCode(n, i)
			wantList(t, fmt.Sprintf("BitCode(%d, %d)", n, i), code, ok, want...)
			wantList(t, "the bit by hand", codeByHand(n, func(letters []int) bool { return letters[i] == 1 }), true, want...)
			for j := range n {
				scores, _ := impl.CodeScores(n, code)
				if all := countStrings(n); j == i && scores[j] != all || j != i && scores[j] != all/2 {
					t.Errorf("CodeScores(%d, BitCode(%d, %d)) = %v", n, n, i, scores)
				}
			}
		}
	}
}
