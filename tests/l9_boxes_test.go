package tests

import (
	"math/rand"
	"testing"

	"loop.example/g01141/impl"
)

// checkBoxCode compares the list with the definition, and its sum with that of the Box.
func checkBoxCode(t *testing.T, b impl.Box) int {
	t.Helper()
	list := boxCodeByHand(b)
	wantBoxCode(t, b, list...)
	if sum := sumByHand(b, sumPlace{[2]int{0, 1}, [2]int{0, 1}, 3}); sumOf(list) != 4*b.Whole+sum {
		t.Fatalf("BoxCode(%v) = %v, with the sum %d", b, list, sum)
	}
	if sum, ok := impl.SumOf(b, [2]int{0, 1}, [2]int{0, 1}, 3); !ok || sumOf(list) != 4*b.Whole+sum {
		t.Fatalf("BoxCode(%v) = %v, with the SumOf %d, %v", b, list, sum, ok)
	}
	return sumOf(list)
}

func TestBoxCodesByHand(t *testing.T) {
	wantBoxCode(t, equalSums(), 2, 2, 2, 2, 2, 2, 2, 2)
	wantBoxCode(t, boxByTimes(equalSums(), 500), 1000, 1000, 1000, 1000, 1000, 1000, 1000, 1000)
	// The sums of equal answers of this Box, which is not quiet, are 95, 89, 77 and 71.
	wantBoxCode(t, markedBox(2, 2, 100), 95, 89, 77, 29, 77, 29, 95, 89)
	// All answers 0: the bit 0 is sent as it is.
	wantBoxCode(t, mustPlayBox(t, 2, 2, []int{0, 0, 0, 0}, 7), 7, 7, 7, 0, 7, 0, 7, 7)
	// The sender answers with the question, so that the bit 1 is sent, and the receiver guesses it.
	wantBoxCode(t, mustPlayBox(t, 2, 2, []int{0, 1, 0, 0}, 7), 7, 7, 0, 7, 0, 7, 7, 7)
	wantBoxCode(t, mustPlayBox(t, 2, 2, []int{0, 0, 0, 1}, 7), 7, 0, 7, 7, 7, 7, 7, 0)
	wantBoxCode(t, mustPlayBox(t, 2, 2, []int{1, 1, 0, 0}, 7), 0, 0, 0, 7, 0, 7, 0, 0)
	// A Box that is not quiet, and right in all but one of the cases, or in none.
	loud := box(2, 2, 1, []int{1, 0, 0, 0}, []int{1, 0, 0, 0}, []int{1, 0, 0, 0}, []int{0, 1, 0, 0})
	wantBoxCode(t, loud, 1, 1, 1, 1, 1, 1, 1, 1)
	loud.Rows[3] = []int{0, 0, 1, 0}
	wantBoxCode(t, loud, 1, 1, 1, 1, 1, 1, 1, 1)
	loud.Rows[0] = []int{0, 0, 1, 0}
	wantBoxCode(t, loud, 0, 1, 1, 1, 1, 1, 0, 1)
	noise := box(2, 2, 4, []int{1, 1, 1, 1}, []int{1, 1, 1, 1}, []int{1, 1, 1, 1}, []int{1, 1, 1, 1})
	wantBoxCode(t, noise, 2, 2, 2, 2, 2, 2, 2, 2)
}

// Each number of each row is in the list where it belongs, and nowhere else.
func TestEachNumberOfBoxCodes(t *testing.T) {
	for _, rows := range allLists(4, 4) {
		b := box(2, 2, 1)
		for _, place := range rows {
			row := make([]int, 4)
			row[place] = 1
			b.Rows = append(b.Rows, row)
		}
		checkBoxCode(t, b)
	}
}

func TestBoxCodesOfSmallBoxes(t *testing.T) {
	for _, b := range allBoxes(2, 2, 2) {
		checkBoxCode(t, b)
	}
}

func TestBoxCodesOfAnyBoxes(t *testing.T) {
	r := rand.New(rand.NewSource(904))
	for range 2000 {
		checkBoxCode(t, someBox(r, 2, 2))
		checkBoxCode(t, someQuietOfTwo(r))
	}
	for _, b := range loudOfTwo() {
		checkBoxCode(t, b)
	}
	for _, whole := range []int{1, 2, 99, 100, 101, 999, impl.MaxWhole} {
		for range 50 {
			checkBoxCode(t, anyQuietBox(r, 2, 2, whole))
		}
	}
}

// What local Boxes guess rightly has a sum of at most 6 times Whole, which some of them have.
func TestBoxCodesOfLocalBoxes(t *testing.T) {
	r := rand.New(rand.NewSource(905))
	reached := 0
	for _, play := range allLists(4, 2) {
		for _, whole := range []int{1, 5, impl.MaxWhole} {
			if sum := checkBoxCode(t, playBoxByHand(2, 2, play, whole)); sum != 6*whole && sum != 2*whole {
				t.Errorf("the play %v has the sum %d of %d", play, sum, whole)
			} else if sum == 6*whole {
				reached++
			}
		}
	}
	if reached != 3*8 {
		t.Errorf("%d plays have the greatest sum", reached)
	}
	for range 1000 {
		b := mixtureByHand(2, 2, someShares(r, 2, 2, 1+r.Intn(impl.MaxWhole)))
		if sum := checkBoxCode(t, b); sum > 6*b.Whole {
			t.Errorf("the local Box %v has the sum %d", b, sum)
		}
	}
}

// A quiet Box with a greater sum is not local, nor is one with a sum less than 2 times Whole.
func TestBoxCodesOfOtherQuietBoxes(t *testing.T) {
	r := rand.New(rand.NewSource(906))
	beyond := 0
	for range 1000 {
		b := someQuietOfTwo(r)
		local, ok := impl.IsLocal(b)
		sum := checkBoxCode(t, b)
		if !ok || local && (sum > 6*b.Whole || sum < 2*b.Whole) {
			t.Errorf("the Box %v has the sum %d", b, sum)
		}
		if sum > 6*b.Whole {
			beyond++
		}
	}
	if beyond < 20 {
		t.Errorf("%d Boxes have greater sums", beyond)
	}
}

// Two bits that are sent by plays alone are a code, with which no other guesses are better than those of its scores.
func TestBoxCodesOfPlaysAreCodes(t *testing.T) {
	equal := 0
	for _, play := range allLists(4, 2) {
		code := codeByHand(2, func(letters []int) bool {
			return sentByHand(letters[0], play[questionByHand(letters[0], letters[1])]) == 1
		})
		sum, total := checkBoxCode(t, playBoxByHand(2, 2, play, 1)), mustCodeTotal(t, 2, code)
		if sum > total {
			t.Errorf("the play %v has the sum %d, and its code %v the total %d", play, sum, code, total)
		}
		if sum == total {
			equal++
		}
	}
	if equal != 8 {
		t.Errorf("%d plays guess as well as their codes", equal)
	}
}
