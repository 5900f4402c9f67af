package tests

import (
	"fmt"
	"math/rand"
	"slices"
	"testing"

	"loop.example/g01141/impl"
)

func checkAlike(t *testing.T, a, b impl.Box) {
	t.Helper()
	want := true
	for i := range a.Rows {
		for j := range 4 {
			want = want && float64(a.Rows[i][j])/float64(a.Whole) == float64(b.Rows[i][j])/float64(b.Whole)
		}
	}
	if alike, ok := impl.AreAlike(a, b); !ok || alike != want {
		t.Fatalf("AreAlike(%v, %v) = %v, %v; want %v, true", a, b, alike, ok, want)
	}
}

func TestAreAlike(t *testing.T) {
	var ones, pairs []impl.Box
	for _, whole := range []int{1, 2, 3, 4, 6} {
		ones = append(ones, allBoxes(1, 1, whole)...)
	}
	for _, whole := range []int{1, 2, 3} {
		pairs = append(pairs, allBoxes(1, 2, whole)...)
	}
	for _, list := range [][]impl.Box{ones, pairs} {
		for _, a := range list {
			for _, b := range list {
				checkAlike(t, a, b)
			}
		}
	}
}

func TestAreAlikeLooksAtAllRows(t *testing.T) {
	for _, size := range allSizes() {
		a := markedBox(size[0], size[1], 500)
		scaled, ok := impl.ScaleBox(a, 2)
		if alike, same := impl.AreAlike(a, scaled); !ok || !same || !alike {
			t.Errorf("AreAlike(%v, %v) = %v, %v", a, scaled, alike, same)
		}
		for place := range a.Rows {
			for at := range 4 {
				other := copyBox(scaled)
				other.Rows[place][at]--
				other.Rows[place][(at+1)%4]++
				checkAlike(t, a, other)
				checkAlike(t, other, a)
				if alike, ok := impl.AreAlike(other, a); !ok || alike {
					t.Errorf("AreAlike(%v, %v) = %v, %v", other, a, alike, ok)
				}
			}
		}
	}
}

func TestBoxesWithOtherQuestionsAreNotCompared(t *testing.T) {
	for _, size := range allSizes() {
		for _, other := range allSizes() {
			a := playBoxByHand(size[0], size[1], make([]int, size[0]+size[1]), 5)
			b := playBoxByHand(other[0], other[1], make([]int, other[0]+other[1]), 5)
			if alike, ok := impl.AreAlike(a, b); ok != (size == other) || alike != (size == other) {
				t.Errorf("AreAlike for %v and %v questions = %v, %v", size, other, alike, ok)
			}
		}
	}
}

func TestSwapPlayers(t *testing.T) {
	r := rand.New(rand.NewSource(10))
	for _, size := range allSizes() {
		for n := range 50 {
			b := markedBox(size[0], size[1], 1000)
			if n > 0 {
				b = someBox(r, size[0], size[1])
			}
			swapped, ok := impl.SwapPlayers(b)
			wantBox(t, "SwapPlayers", swapped, ok, boxBy(b.Y, b.X, b.Whole, func(x, y, a, c int) int { return numberAt(b, y, x, c, a) }))
			back, ok := impl.SwapPlayers(swapped)
			wantBox(t, "SwapPlayers twice", back, ok, b)
		}
	}
	swapped, ok := impl.SwapPlayers(box(1, 2, 10, []int{1, 2, 3, 4}, []int{0, 5, 1, 4}))
	wantBox(t, "SwapPlayers", swapped, ok, box(2, 1, 10, []int{1, 3, 2, 4}, []int{0, 1, 5, 4}))
}

func TestAskAgain(t *testing.T) {
	for _, size := range allSizes() {
		b := markedBox(size[0], size[1], 1000)
		for _, asked := range allSizes() {
			for _, first := range allLists(asked[0], size[0]) {
				for _, second := range allLists(asked[1], size[1]) {
					c, ok := impl.AskAgain(b, first, second)
					wantBox(t, fmt.Sprintf("AskAgain(%v, %v, %v)", b, first, second), c, ok, boxBy(asked[0], asked[1], 1000, func(x, y, a, d int) int {
						return numberAt(b, first[x], second[y], a, d)
					}))
				}
			}
		}
	}
	b, ok := impl.AskAgain(box(1, 2, 3, []int{3, 0, 0, 0}, []int{0, 1, 2, 0}), []int{0, 0}, []int{1})
	wantBox(t, "AskAgain", b, ok, box(2, 1, 3, []int{0, 1, 2, 0}, []int{0, 1, 2, 0}))
}

func TestAskAgainWithWrongLists(t *testing.T) {
	for _, size := range allSizes() {
		b := markedBox(size[0], size[1], 1000)
		lists := [][]int{nil, {}, make([]int, 4), make([]int, 5), make([]int, 100)}
		for _, n := range append(extremeInts(), -1, -2, 3, 4, 9) {
			lists = append(lists, []int{n}, []int{0, n}, []int{n, 0}, []int{0, n, 0}, []int{0, 0, n})
		}
		for _, list := range lists {
			c, ok := impl.AskAgain(b, list, []int{0})
			wantNoBox(t, fmt.Sprintf("AskAgain(%v, %v, [0])", b, list), c, ok)
			c, ok = impl.AskAgain(b, []int{0}, list)
			wantNoBox(t, fmt.Sprintf("AskAgain(%v, [0], %v)", b, list), c, ok)
			c, ok = impl.AskAgain(b, list, list)
			wantNoBox(t, fmt.Sprintf("AskAgain(%v, %v, %v)", b, list, list), c, ok)
		}
		// The question just behind the last one of each player.
		c, ok := impl.AskAgain(b, []int{size[0]}, []int{0})
		wantNoBox(t, fmt.Sprintf("AskAgain of the question %d of %d", size[0], size[0]), c, ok)
		c, ok = impl.AskAgain(b, []int{0}, []int{size[1]})
		wantNoBox(t, fmt.Sprintf("AskAgain of the question %d of %d", size[1], size[1]), c, ok)
	}
}

// The agreement of a row changes its sign for each of both questions that is flipped.
func TestFlipAnswers(t *testing.T) {
	r := rand.New(rand.NewSource(11))
	for _, size := range allSizes() {
		for n := range 20 {
			b := markedBox(size[0], size[1], 1000)
			if n > 0 {
				b = someBox(r, size[0], size[1])
			}
			for _, flips := range allLists(size[0]+size[1], 2) {
				checkFlips(t, b, flips)
			}
		}
	}
	flipped, ok := impl.FlipAnswers(box(1, 2, 10, []int{1, 2, 3, 4}, []int{0, 5, 1, 4}), []int{0, 0, 1})
	wantBox(t, "FlipAnswers", flipped, ok, box(1, 2, 10, []int{1, 2, 3, 4}, []int{5, 0, 4, 1}))
	flipped, ok = impl.FlipAnswers(box(1, 2, 10, []int{1, 2, 3, 4}, []int{0, 5, 1, 4}), []int{1, 0, 1})
	wantBox(t, "FlipAnswers", flipped, ok, box(1, 2, 10, []int{3, 4, 1, 2}, []int{4, 1, 5, 0}))
}

func checkFlips(t *testing.T, b impl.Box, flips []int) {
	t.Helper()
	what := fmt.Sprintf("FlipAnswers(%v, %v)", b, flips)
	flipped, ok := impl.FlipAnswers(b, flips)
	wantBox(t, what, flipped, ok, boxBy(b.X, b.Y, b.Whole, func(x, y, a, c int) int {
		if flips[x] == 1 {
			a = 1 - a
		}
		if flips[b.X+y] == 1 {
			c = 1 - c
		}
		return numberAt(b, x, y, a, c)
	}))
	back, ok := impl.FlipAnswers(flipped, flips)
	wantBox(t, what+" twice", back, ok, b)
	before, one := impl.AgreementsOf(b)
	after, two := impl.AgreementsOf(flipped)
	for x := range b.X {
		for y := range b.Y {
			sign := (1 - 2*flips[x]) * (1 - 2*flips[b.X+y])
			if !one || !two || after[x*b.Y+y] != sign*before[x*b.Y+y] {
				t.Fatalf("agreements of %s: %v, %v; before %v", what, after, two, before)
			}
		}
	}
}

func TestFlipsOfPlays(t *testing.T) {
	for _, size := range allSizes() {
		x, y := size[0], size[1]
		for _, play := range allLists(x+y, 2) {
			for _, flips := range allLists(x+y, 2) {
				var want []int
				for i := range play {
					want = append(want, (play[i]+flips[i])%2)
				}
				what := fmt.Sprintf("FlipPlay(%d, %d, %v, %v)", x, y, play, flips)
				flipped, ok := impl.FlipPlay(x, y, play, flips)
				wantList(t, what, flipped, ok, want...)
				back, ok := impl.FlipPlay(x, y, flipped, flips)
				wantList(t, what+" twice", back, ok, play...)
				b, ok := impl.FlipAnswers(mustPlayBox(t, x, y, play, 3), flips)
				wantBox(t, "FlipAnswers as "+what, b, ok, mustPlayBox(t, x, y, flipped, 3))
			}
		}
	}
}

func TestFlipsWithWrongLists(t *testing.T) {
	for _, size := range allSizes() {
		x, y := size[0], size[1]
		good := someBits(rand.New(rand.NewSource(12)), x+y)
		for _, list := range badBits(x + y) {
			b, ok := impl.FlipAnswers(markedBox(x, y, 1000), list)
			wantNoBox(t, fmt.Sprintf("FlipAnswers for %v questions by %v", size, list), b, ok)
			flipped, ok := impl.FlipPlay(x, y, good, list)
			wantNoList(t, fmt.Sprintf("FlipPlay(%d, %d, %v, %v)", x, y, good, list), flipped, ok)
			flipped, ok = impl.FlipPlay(x, y, list, good)
			wantNoList(t, fmt.Sprintf("FlipPlay(%d, %d, %v, %v)", x, y, list, good), flipped, ok)
			flipped, ok = impl.FlipPlay(x, y, list, list)
			wantNoList(t, fmt.Sprintf("FlipPlay(%d, %d, %v, %v)", x, y, list, list), flipped, ok)
		}
	}
	for _, size := range badSizes() {
		for length := range 9 {
			flipped, ok := impl.FlipPlay(size[0], size[1], make([]int, length), make([]int, length))
			wantNoList(t, fmt.Sprintf("FlipPlay of %d answers for %v questions", length, size), flipped, ok)
		}
	}
}

func TestPlayOfPlayBoxes(t *testing.T) {
	for _, size := range allSizes() {
		for _, play := range allLists(size[0]+size[1], 2) {
			for _, whole := range []int{1, 2, 500, 999, impl.MaxWhole} {
				told, ok := impl.PlayOf(mustPlayBox(t, size[0], size[1], play, whole))
				wantList(t, fmt.Sprintf("PlayOf the PlayBox of %v for %v questions", play, size), told, ok, play...)
			}
		}
	}
}

// playByHand looks for a play all of whose answers have all of the Whole.
func playByHand(b impl.Box) []int {
	for _, play := range allLists(b.X+b.Y, 2) {
		if sameBox(playBoxByHand(b.X, b.Y, play, b.Whole), b) {
			return play
		}
	}
	return nil
}

func TestPlayOfAllSmallBoxes(t *testing.T) {
	for _, c := range []struct{ x, y, whole int }{
		{1, 1, 1}, {1, 1, 3}, {1, 2, 1}, {2, 1, 1}, {1, 2, 2}, {2, 1, 2}, {2, 2, 1}, {1, 3, 1}, {3, 1, 1}, {2, 3, 1}, {3, 2, 1},
	} {
		for _, b := range allBoxes(c.x, c.y, c.whole) {
			told, ok := impl.PlayOf(b)
			if want := playByHand(b); want != nil {
				wantList(t, fmt.Sprintf("PlayOf(%v)", b), told, ok, want...)
			} else {
				wantNoList(t, fmt.Sprintf("PlayOf(%v)", b), told, ok)
			}
		}
	}
}

func TestPlayOfNearlyPlays(t *testing.T) {
	for _, size := range allSizes() {
		for _, play := range allLists(size[0]+size[1], 2) {
			b := mustPlayBox(t, size[0], size[1], play, 1000)
			for place := range b.Rows {
				from := slices.Index(b.Rows[place], 1000)
				for to := range 4 {
					for _, part := range []int{1, 500, 999, 1000} {
						other := copyBox(b)
						other.Rows[place][from] -= part
						other.Rows[place][to] += part
						told, ok := impl.PlayOf(other)
						if want := playByHand(other); want != nil {
							wantList(t, fmt.Sprintf("PlayOf(%v)", other), told, ok, want...)
						} else {
							wantNoList(t, fmt.Sprintf("PlayOf(%v)", other), told, ok)
						}
					}
				}
			}
		}
	}
}
