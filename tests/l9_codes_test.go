package tests

import (
	"fmt"
	"testing"

	"loop.example/g01141/impl"
)

func wantScores(t *testing.T, n int, code []int, want ...int) {
	t.Helper()
	scores, ok := impl.CodeScores(n, code)
	wantList(t, fmt.Sprintf("CodeScores(%d, %v)", n, code), scores, ok, want...)
	wantNumber(t, fmt.Sprintf("CodeTotal(%d, %v)", n, code), mustCodeTotal(t, n, code), true, sumOf(want))
}

func wantGuesses(t *testing.T, n int, code []int, want ...[2]int) {
	t.Helper()
	guesses, ok := impl.CodeGuesses(n, code)
	wantPairs(t, fmt.Sprintf("CodeGuesses(%d, %v)", n, code), guesses, ok, want...)
}

// The four codes of one bit: only if the messages differ is the bit known.
func TestCodesOfOneBit(t *testing.T) {
	for _, c := range []struct {
		code    []int
		score   int
		guesses [2]int
	}{
		{[]int{0, 0}, 1, [2]int{0, 0}},
		{[]int{0, 1}, 2, [2]int{0, 1}},
		{[]int{1, 0}, 2, [2]int{1, 0}},
		{[]int{1, 1}, 1, [2]int{0, 0}},
	} {
		wantScores(t, 1, c.code, c.score)
		wantGuesses(t, 1, c.code, c.guesses)
	}
}

func TestCodesByHand(t *testing.T) {
	// The message 1 for both bits 1 alone: with 0, two of three strings have a bit 0.
	wantScores(t, 2, []int{0, 0, 0, 1}, 3, 3)
	wantGuesses(t, 2, []int{0, 0, 0, 1}, [2]int{0, 1}, [2]int{0, 1})
	// The string 01 has the place 2 if its bit 0 is 0 and its bit 1 is 1: the first two strings have the same bit 1.
	wantScores(t, 2, []int{0, 0, 1, 1}, 2, 4)
	wantGuesses(t, 2, []int{0, 0, 1, 1}, [2]int{0, 0}, [2]int{0, 1})
	wantScores(t, 2, []int{0, 1, 0, 1}, 4, 2)
	wantGuesses(t, 2, []int{0, 1, 0, 1}, [2]int{0, 1}, [2]int{0, 0})
	wantScores(t, 2, []int{0, 1, 0, 0}, 3, 3)
	wantGuesses(t, 2, []int{0, 1, 0, 0}, [2]int{0, 1}, [2]int{1, 0})
	wantScores(t, 2, []int{1, 1, 0, 1}, 3, 3)
	wantGuesses(t, 2, []int{1, 1, 0, 1}, [2]int{0, 1}, [2]int{1, 0})
	// One string alone has the message 1: that of the bits 0, 1 and 1.
	wantScores(t, 3, []int{0, 0, 0, 0, 0, 0, 1, 0}, 5, 5, 5)
	wantGuesses(t, 3, []int{0, 0, 0, 0, 0, 0, 1, 0}, [2]int{1, 0}, [2]int{0, 1}, [2]int{0, 1})
	// The bits are 1, 2 and 3 times among the three strings with the message 1.
	wantScores(t, 3, []int{0, 0, 0, 0, 1, 0, 1, 1}, 5, 5, 7)
	wantGuesses(t, 3, []int{0, 0, 0, 0, 1, 0, 1, 1}, [2]int{1, 0}, [2]int{0, 1}, [2]int{0, 1})
}

// Where as many strings with a message have 0 as have 1, or where there are none, the guess is 0.
func TestGuessesOfEvenMessages(t *testing.T) {
	for n := 1; n <= 3; n++ {
		strings := countStrings(n)
		var half []int
		var even [][2]int
		for range n {
			half, even = append(half, strings/2), append(even, [2]int{0, 0})
		}
		ones := make([]int, strings)
		for k := range ones {
			ones[k] = 1
		}
		wantScores(t, n, make([]int, strings), half...)
		wantGuesses(t, n, make([]int, strings), even...)
		wantScores(t, n, ones, half...)
		wantGuesses(t, n, ones, even...)
		if n == 1 {
			continue
		}
		// Both messages have as many strings with a bit 0 as with a bit 1.
		for first := range 2 {
			parity := codeByHand(n, func(letters []int) bool { return (sumOf(letters)+first)%2 == 1 })
			wantScores(t, n, parity, half...)
			wantGuesses(t, n, parity, even...)
		}
	}
	// Of three bits, all are even, or all but one. Where one message is even, the other one is, too: as many strings have 0 as have 1.
	wantGuesses(t, 3, []int{1, 0, 0, 0, 0, 0, 0, 1}, [2]int{0, 0}, [2]int{0, 0}, [2]int{0, 0})
	wantScores(t, 3, []int{1, 0, 0, 0, 0, 0, 0, 1}, 4, 4, 4)
	wantGuesses(t, 3, []int{0, 1, 1, 1, 1, 1, 1, 0}, [2]int{0, 0}, [2]int{0, 0}, [2]int{0, 0})
	wantScores(t, 3, []int{0, 1, 1, 1, 1, 1, 1, 0}, 4, 4, 4)
	wantGuesses(t, 3, []int{0, 0, 1, 1, 0, 0, 1, 1}, [2]int{0, 0}, [2]int{0, 1}, [2]int{0, 0})
	wantGuesses(t, 3, []int{1, 1, 0, 0, 1, 1, 0, 0}, [2]int{0, 0}, [2]int{1, 0}, [2]int{0, 0})
	wantGuesses(t, 3, []int{0, 0, 0, 0, 0, 1, 1, 0}, [2]int{0, 0}, [2]int{0, 0}, [2]int{0, 1})
	wantScores(t, 3, []int{0, 0, 0, 0, 0, 1, 1, 0}, 4, 4, 6)
}

func TestAllCodes(t *testing.T) {
	for n := 1; n <= impl.MaxLetters; n++ {
		for _, code := range allCodes(n) {
			if !impl.IsCode(n, code) {
				t.Fatalf("not IsCode(%d, %v)", n, code)
			}
			wantScores(t, n, code, codeScoresByHand(n, code)...)
			var guesses [][2]int
			for i := range n {
				guesses = append(guesses, [2]int{guessByHand(code, i, 0), guessByHand(code, i, 1)})
			}
			wantGuesses(t, n, code, guesses...)
		}
	}
}

// The scores are the same if both messages are exchanged, and at least those of a guess without a message.
func TestScoresOfOtherMessages(t *testing.T) {
	for n := 1; n <= 3; n++ {
		for _, code := range allCodes(n) {
			other := make([]int, len(code))
			for k, message := range code {
				other[k] = 1 - message
			}
			scores := codeScoresByHand(n, code)
			wantScores(t, n, other, scores...)
			for i, score := range scores {
				if score < countStrings(n)/2 || score > countStrings(n) {
					t.Errorf("the score of %d in %v is %d", i, code, score)
				}
			}
		}
	}
}
