package tests

import (
	"fmt"
	"math/rand"
	"slices"
	"testing"

	"loop.example/g01141/impl"
)

func TestLimitsOfCodes(t *testing.T) {
	if impl.MaxLetters != 3 || impl.MaxChainWhole != 100 {
		t.Errorf("at most %d bits, and a Whole of %d", impl.MaxLetters, impl.MaxChainWhole)
	}
}

// badLetterCounts are no numbers of bits of a code.
func badLetterCounts() []int {
	return append(extremeInts(), -64, -4, -3, -2, -1, 0, 4, 5, 6, 8, 16, 62, 63, 64, 65, 67, 100)
}

// flawedCodes are no codes of n bits: of another length, also that of a code of other numbers of bits, or with other messages.
func flawedCodes(n int) [][]int {
	strings := countStrings(n)
	flawed := badBits(strings)
	for size := range 40 {
		if size != strings {
			flawed = append(flawed, make([]int, size), slices.Repeat([]int{1}, size))
		}
	}
	for place := range strings {
		for _, message := range []int{-1, 2} {
			code := slices.Repeat([]int{1}, strings)
			code[place] = message
			flawed = append(flawed, code)
		}
	}
	return flawed
}

func wantNoCode(t *testing.T, n int, code []int) {
	t.Helper()
	if impl.IsCode(n, code) {
		t.Fatalf("IsCode(%d, %v)", n, code)
	}
	what := fmt.Sprintf("(%d, %v)", n, code)
	list, ok := impl.CodeScores(n, code)
	wantNoList(t, "CodeScores"+what, list, ok)
	pairs, ok := impl.CodeGuesses(n, code)
	wantNoPairs(t, "CodeGuesses"+what, pairs, ok)
	total, ok := impl.CodeTotal(n, code)
	wantNoNumber(t, "CodeTotal"+what, total, ok)
	wantNotShared(t, n, [][]int{code})
}

func TestFlawedCodesAreNone(t *testing.T) {
	for n := 1; n <= impl.MaxLetters; n++ {
		for _, bad := range flawedCodes(n) {
			wantNoCode(t, n, bad)
		}
	}
}

func TestCodesOfOtherNumbersOfBits(t *testing.T) {
	for _, n := range badLetterCounts() {
		for size := range 65 {
			wantNoCode(t, n, make([]int, size))
		}
		wantNoCode(t, n, nil)
		wantNoCode(t, n, []int{0, 1})
		wantNoCode(t, n, []int{0, 0, 0, 1, 0, 1, 1, 1})
		wantNotShared(t, n, nil)
		wantNotShared(t, n, [][]int{{}, {}})
		wantNotShared(t, n, [][]int{{0, 1}, {0, 1}})
		wantNotShared(t, n, slices.Repeat([][]int{{0, 1}}, impl.MaxWhole))
	}
	// A code of one number of bits is none of another one.
	for n := 1; n <= 3; n++ {
		for other := 1; other <= 3; other++ {
			for _, code := range allCodes(other) {
				if n != other {
					wantNoCode(t, n, code)
				}
			}
		}
	}
}

func TestNoCodesOfOtherNumbersOfBits(t *testing.T) {
	calls := map[string]func(n int) ([]int, bool){
		"BestCode":     impl.BestCode,
		"FairCode":     impl.FairCode,
		"MajorityCode": impl.MajorityCode,
		"ParityCode":   impl.ParityCode,
	}
	for name, call := range calls {
		for _, n := range badLetterCounts() {
			code, ok := call(n)
			wantNoList(t, fmt.Sprintf("%s(%d)", name, n), code, ok)
		}
		for n := 1; n <= 3; n++ {
			if code, ok := call(n); !ok || !impl.IsCode(n, code) {
				t.Errorf("%s(%d) = %v, %v", name, n, code, ok)
			}
		}
	}
}

func TestNoCodesOfOtherBits(t *testing.T) {
	for _, n := range append(badLetterCounts(), 1, 2, 3) {
		for _, i := range append(extremeInts(), -64, -3, -2, -1, 0, 1, 2, 3, 4, 5, 8, 63, 64, n-1, n, n+1) {
			code, ok := impl.BitCode(n, i)
			what := fmt.Sprintf("BitCode(%d, %d)", n, i)
			if n < 1 || n > 3 || i < 0 || i >= n {
				wantNoList(t, what, code, ok)
				continue
			}
			if !ok || !impl.IsCode(n, code) {
				t.Errorf("%s = %v, %v", what, code, ok)
			}
		}
	}
}

func callsOfBoxesForCodes() map[string]ofBox {
	return map[string]ofBox{
		"BoxCode": func(b, _ impl.Box) (bool, bool) { list, ok := impl.BoxCode(b); return ok, len(list) == 0 },
	}
}

func callsOfChains() map[string]ofBox {
	return map[string]ofBox{
		"ChainRight":             func(b, _ impl.Box) (bool, bool) { n, ok := impl.ChainRight(b, 0, 0); return ok, n == 0 },
		"ChainRight of the last": func(b, _ impl.Box) (bool, bool) { n, ok := impl.ChainRight(b, 15, 3); return ok, n == 0 },
		"ChainLeast":             func(b, _ impl.Box) (bool, bool) { n, ok := impl.ChainLeast(b); return ok, n == 0 },
	}
}

func TestNoFunctionOfLayer9TakesAFlawedBox(t *testing.T) {
	checkFlawedBoxesFail(t, callsOfBoxesForCodes())
	checkFlawedBoxesFail(t, callsOfChains())
}

func TestFunctionsOfLayer9TakeTwoQuestionsEachOnly(t *testing.T) {
	for _, size := range allSizes() {
		x, y := size[0], size[1]
		want := x == 2 && y == 2
		b := playBoxByHand(x, y, make([]int, x+y), 5)
		wantOfBox(t, callsOfBoxesForCodes(), b, want)
		wantOfBox(t, callsOfBoxesForCodes(), markedBox(x, y, 100), want)
		wantOfBox(t, callsOfChains(), b, want)
		if !want {
			wantNoBoxCode(t, b)
			wantNoChain(t, b)
		}
	}
}

// A Box that is not quiet is taken by BoxCode alone, be it loud for one player only, or in one row only.
func TestNoChainsOfLoudBoxes(t *testing.T) {
	for _, b := range loudOfTwo() {
		wantOfBox(t, callsOfBoxesForCodes(), b, true)
		wantNoChain(t, b)
	}
	for _, b := range allBoxes(2, 2, 1) {
		wantOfBox(t, callsOfBoxesForCodes(), b, true)
		wantOfBox(t, callsOfChains(), b, isQuietByHand(b))
	}
	r := rand.New(rand.NewSource(909))
	for range 500 {
		if b := someBox(r, 2, 2); !isQuietByHand(b) {
			wantOfBox(t, callsOfBoxesForCodes(), b, true)
			wantNoChain(t, b)
		}
	}
}

func TestWholesOfChains(t *testing.T) {
	r := rand.New(rand.NewSource(910))
	for whole := 1; whole <= impl.MaxWhole; whole++ {
		play := playBoxByHand(2, 2, someBits(r, 4), whole)
		wantOfBox(t, callsOfBoxesForCodes(), play, true)
		wantOfBox(t, callsOfChains(), play, whole <= impl.MaxChainWhole)
		wantOfBox(t, callsOfChains(), anyQuietBox(r, 2, 2, whole), whole <= impl.MaxChainWhole)
	}
	// A Box with a greater Whole is not taken, though a Box that is alike is.
	wantNoChain(t, boxByTimes(equalSums(), 51))
	wantNoChain(t, playBoxByHand(2, 2, []int{0, 0, 0, 0}, impl.MaxChainWhole+1))
	wantNoChain(t, boxByTimes(equalSums(), 500))
}

func TestStringsAndBitsOfChains(t *testing.T) {
	places := append(extremeInts(), -16, -4, -3, -2, -1, 0, 3, 4, 5, 14, 15, 16, 17, 31, 32, 64, 100)
	for _, b := range []impl.Box{equalSums(), playBoxByHand(2, 2, []int{0, 0, 0, 0}, 1), boxByTimes(equalSums(), 50)} {
		for _, k := range places {
			for _, i := range places {
				right, ok := impl.ChainRight(b, k, i)
				what := fmt.Sprintf("ChainRight(%v, %d, %d)", b, k, i)
				if k >= 0 && k <= 15 && i >= 0 && i <= 3 {
					wantNumber(t, what, right, ok, chainByHand(b, k, i, 0))
				} else {
					wantNoNumber(t, what, right, ok)
				}
			}
		}
	}
}
