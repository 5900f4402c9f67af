package tests

import (
	"math/rand"
	"testing"

	"loop.example/g01141/impl"
)

// checkChain compares all strings and bits with the definition.
func checkChain(t *testing.T, b impl.Box) int {
	t.Helper()
	least := -1
	for k := range 16 {
		for i := range 4 {
			right := chainByHand(b, k, i, 0)
			if other := chainByHand(b, k, i, 1); right != other {
				t.Fatalf("%v is not quiet: %d and %d", b, right, other)
			}
			wantRight(t, b, k, i, right)
			if least < 0 || right < least {
				least = right
			}
		}
	}
	wantLeast(t, b, least)
	return least
}

// Promise 9: chains of equal sums are always right.
func TestChainsOfEqualSumsAreAlwaysRight(t *testing.T) {
	for times := 1; 2*times <= impl.MaxChainWhole; times++ {
		b := boxByTimes(equalSums(), times)
		third := b.Whole * b.Whole * b.Whole
		for k := range 16 {
			for i := range 4 {
				wantRight(t, b, k, i, third)
			}
		}
		wantLeast(t, b, third)
		// With the other sums, each guess of a message is wrong, and so each guess of a bit is wrong twice.
		wantLeast(t, boxByTimes(sumBoxByHand(1), times), third)
	}
	wantLeast(t, boxByTimes(equalSums(), impl.MaxChainWhole/2), 1000000)
}

// In the sums 2 and 3, one of two questions is always answered for the other number; in 4..7, one of them tells of the other bit, so
// that the guess of its message goes with answers of a Box that has nothing to do with it.
func TestChainsOfEqualSumBoxes(t *testing.T) {
	for k, want := range []int{8, 8, 0, 0, 4, 4, 4, 4} {
		if least := checkChain(t, sumBoxByHand(k)); least != want {
			t.Errorf("ChainLeast of the equal-sum box %d is %d", k, least)
		}
	}
}

// With noise, both guesses are right, or both are wrong.
func TestChainsOfNoisySums(t *testing.T) {
	for share := 0; share <= 12; share++ {
		for noise := 0; noise <= 6; noise++ {
			b, ok := impl.NoisySum(0, share, noise)
			if share == 0 && noise == 0 {
				continue
			}
			if !ok {
				t.Fatalf("NoisySum(0, %d, %d) fails", share, noise)
			}
			right, wrong := 2*share+2*noise, 2*noise
			want := (right*right + wrong*wrong) * (right + wrong)
			for k := range 16 {
				for i := range 4 {
					wantRight(t, b, k, i, want)
				}
			}
			wantLeast(t, b, want)
		}
	}
	noise, _ := impl.NoiseBox(2, 2, 25)
	wantLeast(t, noise, 500000)
}

// With plays alone, each string has one message, and each guess is right or wrong for sure.
func TestChainsOfPlaysByHand(t *testing.T) {
	for k := range 16 {
		for i := range 4 {
			// All answers 0: the bit 0 is sent as it is, and guessed for each bit.
			want := 0
			if letterAt(k, 0) == letterAt(k, i) {
				want = 27
			}
			wantRight(t, mustPlayBox(t, 2, 2, []int{0, 0, 0, 0}, 3), k, i, want)
			wantRight(t, mustPlayBox(t, 2, 2, []int{0, 0, 1, 1}, 3), k, i, want)
			// The sender answers with the question, so that the second one of two bits is sent each time.
			want = 0
			if letterAt(k, 3) == letterAt(k, i) {
				want = 27
			}
			wantRight(t, mustPlayBox(t, 2, 2, []int{0, 1, 0, 0}, 3), k, i, want)
			wantRight(t, mustPlayBox(t, 2, 2, []int{0, 1, 1, 1}, 3), k, i, want)
			// Where all answers of the sender are 1, the bit 0 is turned twice on its way.
			want = 0
			if letterAt(k, 0) == letterAt(k, i) {
				want = 27
			}
			wantRight(t, mustPlayBox(t, 2, 2, []int{1, 1, 0, 0}, 3), k, i, want)
			// The receiver turns the message over once for the second one of two.
			want = 0
			if (letterAt(k, 0) == letterAt(k, i)) == (i == 0 || i == 3) {
				want = 27
			}
			wantRight(t, mustPlayBox(t, 2, 2, []int{0, 0, 0, 1}, 3), k, i, want)
		}
	}
}

func TestChainsOfPlays(t *testing.T) {
	for _, play := range allLists(4, 2) {
		for _, whole := range []int{1, 2, 99, impl.MaxChainWhole} {
			if least := checkChain(t, playBoxByHand(2, 2, play, whole)); least != 0 {
				t.Errorf("the play %v is right with %d of %d, for all bits", play, least, whole)
			}
		}
	}
}

// Only one of both players answers by chance.
func TestChainsByHand(t *testing.T) {
	// The sender answers 0 three times of four, and the receiver 0 always: a message has the bit 0 of two three times of four.
	b, ok := impl.ProductBox([]int{1, 1}, []int{0, 0}, 4)
	if !ok {
		t.Fatal("ProductBox fails")
	}
	third := 16 * 16 * 16
	for k := range 16 {
		for i := range 4 {
			// The bit 0 is sent as it is with 3/4 * 3/4 + 1/4 * 1/4 = 5/8.
			want := third * 3 / 8
			if letterAt(k, 0) == letterAt(k, i) {
				want = third * 5 / 8
			}
			wantRight(t, b, k, i, want)
		}
	}
	wantLeast(t, b, third*3/8)
	// The receiver answers 1 once of four for the second one of two, and never for the first one; the sender answers 0.
	b, ok = impl.ProductBox([]int{0, 0}, []int{0, 1}, 4)
	if !ok {
		t.Fatal("ProductBox fails")
	}
	for k := range 16 {
		for i, kept := range []int{8, 6, 6, 5} {
			want := third * (8 - kept) / 8
			if letterAt(k, 0) == letterAt(k, i) {
				want = third * kept / 8
			}
			wantRight(t, b, k, i, want)
		}
	}
	wantLeast(t, b, third*2/8)
}

func TestChainsOfQuietBoxes(t *testing.T) {
	r := rand.New(rand.NewSource(907))
	for range 300 {
		checkChain(t, someQuietForChain(r))
	}
	for _, whole := range []int{1, 2, 3, 99, impl.MaxChainWhole} {
		for range 40 {
			checkChain(t, anyQuietBox(r, 2, 2, whole))
		}
	}
}

func TestChainsOfSmallQuietBoxes(t *testing.T) {
	for _, b := range allQuietBoxes(2, 2, 2) {
		checkChain(t, b)
	}
}

// All answers of a player are turned over twice on their way, and so are all bits of a string with its messages.
func TestChainsOfFlippedAnswers(t *testing.T) {
	r := rand.New(rand.NewSource(908))
	for range 100 {
		b := someQuietForChain(r)
		for _, flips := range [][]int{{1, 1, 0, 0}, {0, 0, 1, 1}, {1, 1, 1, 1}} {
			flipped, ok := impl.FlipAnswers(b, flips)
			if !ok {
				t.Fatalf("FlipAnswers(%v, %v) fails", b, flips)
			}
			for k := range 16 {
				for i := range 4 {
					right := chainByHand(b, k, i, 0)
					wantRight(t, flipped, k, i, right)
					wantRight(t, b, 15-k, i, right)
				}
			}
		}
	}
}
