package tests

import (
	"fmt"
	"math/rand"
	"slices"
	"testing"

	"loop.example/g01141/impl"
)

func TestEqualSumBoxes(t *testing.T) {
	even, odd := []int{1, 0, 0, 1}, []int{0, 1, 1, 0}
	for k, rows := range [][][]int{
		{even, even, even, odd}, {odd, odd, odd, even}, {even, odd, even, even}, {odd, even, odd, odd},
		{even, even, odd, even}, {odd, odd, even, odd}, {even, odd, odd, odd}, {odd, even, even, even},
	} {
		b, ok := impl.EqualSumBox(k)
		wantBox(t, fmt.Sprintf("EqualSumBox(%d)", k), b, ok, box(2, 2, 2, rows...))
		wantBox(t, "that by the definition", sumBoxByHand(k), true, b)
	}
	for _, k := range badKinds(impl.SumKinds) {
		b, ok := impl.EqualSumBox(k)
		wantNoBox(t, fmt.Sprintf("EqualSumBox(%d)", k), b, ok)
	}
}

func TestExtremeBoxesByHand(t *testing.T) {
	for i, want := range map[int]impl.Box{
		0:  box(2, 2, 2, []int{2, 0, 0, 0}, []int{2, 0, 0, 0}, []int{2, 0, 0, 0}, []int{2, 0, 0, 0}),
		1:  box(2, 2, 2, []int{2, 0, 0, 0}, []int{0, 2, 0, 0}, []int{2, 0, 0, 0}, []int{0, 2, 0, 0}),
		8:  box(2, 2, 2, []int{0, 0, 2, 0}, []int{0, 0, 2, 0}, []int{2, 0, 0, 0}, []int{2, 0, 0, 0}),
		15: box(2, 2, 2, []int{0, 0, 0, 2}, []int{0, 0, 0, 2}, []int{0, 0, 0, 2}, []int{0, 0, 0, 2}),
		16: equalSums(),
		17: box(2, 2, 2, []int{0, 1, 1, 0}, []int{0, 1, 1, 0}, []int{0, 1, 1, 0}, []int{1, 0, 0, 1}),
		23: box(2, 2, 2, []int{0, 1, 1, 0}, []int{1, 0, 0, 1}, []int{1, 0, 0, 1}, []int{1, 0, 0, 1}),
	} {
		b, ok := impl.ExtremeBox(i)
		wantBox(t, fmt.Sprintf("ExtremeBox(%d)", i), b, ok, want)
	}
	for _, i := range append(badKinds(impl.ExtremeKinds), 25, 30, 31, 32) {
		b, ok := impl.ExtremeBox(i)
		wantNoBox(t, fmt.Sprintf("ExtremeBox(%d)", i), b, ok)
	}
}

// Each one is quiet and extreme, with the Whole 2, and no two are alike.
func TestExtremeBoxes(t *testing.T) {
	for i, want := range extremesByHand() {
		b, ok := impl.ExtremeBox(i)
		wantBox(t, fmt.Sprintf("ExtremeBox(%d)", i), b, ok, want)
		quiet, ok := impl.IsQuiet(b)
		wantReport(t, fmt.Sprintf("IsQuiet(%v)", b), quiet, ok, true)
		extreme, ok := impl.IsExtreme(b)
		wantReport(t, fmt.Sprintf("IsExtreme(%v)", b), extreme, ok, true)
		if b.Whole != 2 || !isQuietByHand(b) {
			t.Errorf("ExtremeBox(%d) = %v", i, b)
		}
		for j := range impl.ExtremeKinds {
			other, _ := impl.ExtremeBox(j)
			alike, ok := impl.AreAlike(b, other)
			wantReport(t, fmt.Sprintf("AreAlike for %d and %d", i, j), alike, ok, i == j)
		}
	}
	for i, play := range allLists(4, 2) {
		b, _ := impl.ExtremeBox(i)
		list, ok := impl.PlayOf(b)
		wantList(t, fmt.Sprintf("PlayOf of ExtremeBox(%d)", i), list, ok, play...)
	}
}

// checkExtreme also finds two quiet Boxes for a Box that is not extreme, as the definition names them: an extreme one that all
// numbers of the Box are at least as great as, and what is left of the Box without it.
func checkExtreme(t *testing.T, b impl.Box) bool {
	t.Helper()
	want := isExtremeByHand(b)
	extreme, ok := impl.IsExtreme(b)
	wantReport(t, fmt.Sprintf("IsExtreme(%v)", b), extreme, ok, want)
	if !want && !slices.ContainsFunc(extremesByHand(), func(e impl.Box) bool { return splits(b, leastByHand(e)) }) {
		t.Fatalf("%v is no mixture of an extreme Box and of another quiet one", b)
	}
	return want
}

func splits(b, e impl.Box) bool {
	other := without(b, e)
	if !impl.IsBox(other) || !isQuietByHand(other) || areAlikeByHand(other, e) {
		return false
	}
	mix, ok := impl.MixBoxes(e, other)
	return ok && sameBox(mix, b)
}

// mixedQuietBoxes has the texts of all that are alike with MixBoxes of two small quiet Boxes that are not alike.
func mixedQuietBoxes(t *testing.T, quiet map[int][]impl.Box) map[string]bool {
	t.Helper()
	mixed := map[string]bool{}
	for _, wholes := range [][2]int{{1, 1}, {1, 2}, {1, 3}, {2, 2}} {
		for _, a := range quiet[wholes[0]] {
			for _, b := range quiet[wholes[1]] {
				if !areAlikeByHand(a, b) {
					mixed[textByHand(leastByHand(mustMix(t, a, b)))] = true
				}
			}
		}
	}
	return mixed
}

// By the definition: a quiet Box is extreme if it is alike with none that is mixed so.
func TestExtremeAmongAllSmallQuietBoxes(t *testing.T) {
	quiet := map[int][]impl.Box{}
	for whole := 1; whole <= 4; whole++ {
		quiet[whole] = allQuietBoxes(2, 2, whole)
	}
	mixed := mixedQuietBoxes(t, quiet)
	for whole, want := range map[int]int{1: 16, 2: 24, 3: 16, 4: 24} {
		count := 0
		for _, b := range quiet[whole] {
			extreme, ok := impl.IsExtreme(b)
			wantReport(t, fmt.Sprintf("IsExtreme(%v)", b), extreme, ok, !mixed[textByHand(leastByHand(b))])
			if extreme {
				count++
			}
		}
		if count != want {
			t.Errorf("%d Boxes with the Whole %d are extreme, not %d", count, whole, want)
		}
	}
}

func TestBoxesAlikeWithExtremeOnesAreExtreme(t *testing.T) {
	for i, e := range extremesByHand() {
		least := leastByHand(e)
		for times := 1; times*least.Whole <= impl.MaxWhole; times++ {
			extreme, ok := impl.IsExtreme(boxByTimes(least, times))
			wantReport(t, fmt.Sprintf("IsExtreme of %d times %d", times, i), extreme, ok, true)
		}
	}
}

// A mixture of two or three of them is not, even if it has only a part of one of them.
func TestMixturesOfExtremeBoxesAreNotExtreme(t *testing.T) {
	r := rand.New(rand.NewSource(88))
	list := extremesByHand()
	for i, a := range list {
		for _, b := range list[i+1:] {
			for _, parts := range [][2]int{{1, 1}, {1, 2}, {1 + r.Intn(250), 1 + r.Intn(250)}, {499, 1}, {1, 499}} {
				mix := joined(boxByTimes(a, parts[0]), boxByTimes(b, parts[1]))
				if checkExtreme(t, mix) {
					t.Fatalf("a mixture of %v and %v is extreme", a, b)
				}
				c := list[r.Intn(len(list))]
				if third := joined(mix, c); impl.IsBox(third) && checkExtreme(t, third) {
					t.Fatalf("a mixture of %v, %v and %v is extreme", a, b, c)
				}
			}
		}
	}
}

func TestExtremeAmongAnyQuietBoxes(t *testing.T) {
	r := rand.New(rand.NewSource(89))
	extreme, others := 0, 0
	for range 2000 {
		if checkExtreme(t, someQuietOfTwo(r)) {
			extreme++
		} else {
			others++
		}
	}
	if extreme < 300 || others < 300 {
		t.Errorf("%d Boxes were extreme, and %d were not", extreme, others)
	}
}

// A single part that is elsewhere makes a Box that is nearly extreme another one.
func TestBoxesThatAreNearlyExtreme(t *testing.T) {
	for _, e := range extremesByHand() {
		for _, other := range extremesByHand() {
			least := leastByHand(other)
			b := joined(boxByTimes(e, (impl.MaxWhole-least.Whole)/2), least)
			if !impl.IsBox(b) || checkExtreme(t, b) != areAlikeByHand(e, other) {
				t.Fatalf("%v with one of %v", e, other)
			}
		}
	}
}
