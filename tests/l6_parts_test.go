package tests

import (
	"fmt"
	"math"
	"math/rand"
	"slices"
	"testing"

	"loop.example/g01141/impl"
)

func wantPart(t *testing.T, b impl.Box, k, share int) {
	t.Helper()
	gotK, gotShare, ok := impl.PartOf(b)
	if !ok || gotK != k || gotShare != share {
		t.Fatalf("PartOf(%v) = %d, %d, %v; want %d, %d, true", b, gotK, gotShare, ok, k, share)
	}
}

func wantRest(t *testing.T, b impl.Box, want impl.Box) {
	t.Helper()
	rest, ok := impl.RestOf(b)
	wantBox(t, fmt.Sprintf("RestOf(%v)", b), rest, ok, want)
}

func wantNoRest(t *testing.T, b impl.Box) {
	t.Helper()
	rest, ok := impl.RestOf(b)
	wantNoBox(t, fmt.Sprintf("RestOf(%v)", b), rest, ok)
}

func wantJoined(t *testing.T, rest impl.Box, k, share int, want impl.Box) {
	t.Helper()
	b, ok := impl.JoinPart(rest, k, share)
	wantBox(t, fmt.Sprintf("JoinPart(%v, %d, %d)", rest, k, share), b, ok, want)
}

func wantNotJoined(t *testing.T, rest impl.Box, k, share int) {
	t.Helper()
	b, ok := impl.JoinPart(rest, k, share)
	wantNoBox(t, fmt.Sprintf("JoinPart(%v, %d, %d)", rest, k, share), b, ok)
}

// checkPart checks the promise for a quiet Box: it is the mixture of its rest and of one equal-sum box.
func checkPart(t *testing.T, b impl.Box) int {
	t.Helper()
	k, share := partByHand(b)
	wantPart(t, b, k, share)
	whole := 2*b.Whole - 2*share
	if whole == 0 || whole > impl.MaxWhole {
		wantNoRest(t, b)
		return share
	}
	rest := without(boxByTimes(b, 2), boxByTimes(sumBoxByHand(k), share))
	wantRest(t, b, rest)
	if rest.Whole != whole || !impl.IsBox(rest) || !isQuietByHand(rest) || slices.Max(eightSumsByHand(rest)) > 2*whole {
		t.Fatalf("the rest of %v is %v", b, rest)
	}
	if 2*b.Whole > impl.MaxWhole {
		wantNotJoined(t, rest, k, share)
		return share
	}
	wantJoined(t, rest, k, share, leastByHand(b))
	back, _ := impl.JoinPart(rest, k, share)
	alike, ok := impl.AreAlike(back, b)
	wantReport(t, fmt.Sprintf("AreAlike(%v, %v)", back, b), alike, ok, true)
	return share
}

func TestPartsByHand(t *testing.T) {
	wantPart(t, equalSums(), 0, 2)
	wantNoRest(t, equalSums())
	// Three of the equal sums and noise: the greatest sum is 24, and 2 times the Whole is 20.
	noisy := box(2, 2, 10, []int{4, 1, 1, 4}, []int{4, 1, 1, 4}, []int{4, 1, 1, 4}, []int{1, 4, 4, 1})
	wantPart(t, noisy, 0, 2)
	rest := box(2, 2, 16, []int{6, 2, 2, 6}, []int{6, 2, 2, 6}, []int{6, 2, 2, 6}, []int{2, 6, 6, 2})
	wantRest(t, noisy, rest)
	wantJoined(t, rest, 0, 2, noisy)
	// The equal-sum box 6 and the play 0 0 1 1.
	b := box(2, 2, 3, []int{1, 1, 0, 1}, []int{0, 2, 1, 0}, []int{0, 2, 1, 0}, []int{0, 2, 1, 0})
	wantPart(t, b, 6, 2)
	rest = box(2, 2, 2, []int{0, 2, 0, 0}, []int{0, 2, 0, 0}, []int{0, 2, 0, 0}, []int{0, 2, 0, 0})
	wantRest(t, b, rest)
	wantJoined(t, rest, 6, 2, b)
	wantJoined(t, rest, 6, 1, box(2, 2, 4, []int{1, 2, 0, 1}, []int{0, 3, 1, 0}, []int{0, 3, 1, 0}, []int{0, 3, 1, 0}))
}

func TestPartsOfAllSmallQuietBoxes(t *testing.T) {
	for whole := 1; whole <= 4; whole++ {
		for _, b := range allQuietBoxes(2, 2, whole) {
			checkPart(t, b)
		}
	}
}

func TestPartsOfAnyQuietBoxes(t *testing.T) {
	r := rand.New(rand.NewSource(93))
	none, some := 0, 0
	for range 3000 {
		if checkPart(t, someQuietOfTwo(r)) == 0 {
			none++
		} else {
			some++
		}
	}
	if none < 500 || some < 500 {
		t.Errorf("%d shares were 0, and %d were not", none, some)
	}
}

func TestPartsOfEachKind(t *testing.T) {
	r := rand.New(rand.NewSource(94))
	for k := range impl.SumKinds {
		for _, c := range [][2]int{{1, 0}, {1, 1}, {1, 2}, {2, 1}, {1, 498}, {1, 499}, {249, 2}, {250, 500}, {499, 1}, {499, 2}, {500, 0}} {
			b := beyondBox(r, k, c[0], c[1])
			wantPart(t, b, k, 2*c[0])
			checkPart(t, b)
		}
	}
}

// All sums of noise are 0, and four of a play are 2 times the Whole: the first one is taken, with the share 0.
func TestSeveralKindsWithTheGreatestSum(t *testing.T) {
	noise := box(2, 2, 4, []int{1, 1, 1, 1}, []int{1, 1, 1, 1}, []int{1, 1, 1, 1}, []int{1, 1, 1, 1})
	wantPart(t, noise, 0, 0)
	wantRest(t, noise, boxByTimes(noise, 2))
	wantJoined(t, boxByTimes(noise, 2), 0, 0, noise)
	for i, play := range allLists(4, 2) {
		b := mustPlayBox(t, 2, 2, play, 1)
		wantPart(t, b, []int{0, 0, 1, 1, 0, 1, 0, 1, 1, 0, 1, 0, 1, 1, 0, 0}[i], 0)
		checkPart(t, b)
	}
	for k := range impl.SumKinds {
		// The sum k and the one with the opposite sign become 0, as all others are.
		wantPart(t, mustMix(t, sumBoxByHand(k), sumBoxByHand(k^1)), 0, 0)
		for other := range impl.SumKinds {
			if other/2 != k/2 {
				// Two sums of 2 times the Whole: the less one is the first.
				wantPart(t, mustMix(t, sumBoxByHand(k), sumBoxByHand(other)), min(k, other), 0)
			}
		}
	}
}

func TestSharesOfMixturesOfPlayBoxesAre0(t *testing.T) {
	r := rand.New(rand.NewSource(95))
	for range 1000 {
		b := mixtureByHand(2, 2, someShares(r, 2, 2, []int{1, 2, 1 + r.Intn(20), 1 + r.Intn(500), impl.MaxWhole}[r.Intn(5)]))
		if checkPart(t, b) != 0 {
			t.Fatalf("%v has a share", b)
		}
		if b.Whole <= impl.MaxWhole/2 {
			wantRest(t, b, boxByTimes(b, 2))
		} else {
			wantNoRest(t, b)
		}
	}
	// Those with the greatest sum that a mixture can have.
	for k := range impl.SumKinds {
		for range 50 {
			plays := playsWithSum(k, 2)
			b := addPlays(t, r, mustPlayBox(t, 2, 2, plays[0], 1), plays, r.Intn(impl.MaxWhole))
			if sums := eightSumsByHand(b); sums[k] != 2*b.Whole || checkPart(t, b) != 0 {
				t.Fatalf("%v has a share", b)
			}
		}
	}
}

// The share is the Whole exactly for Boxes alike with an equal-sum box, and just below it with one play more.
func TestSharesOfTheWhole(t *testing.T) {
	r := rand.New(rand.NewSource(96))
	for k := range impl.SumKinds {
		for times := 1; times <= 500; times++ {
			b := boxByTimes(sumBoxByHand(k), times)
			wantPart(t, b, k, b.Whole)
			wantNoRest(t, b)
		}
		for _, times := range []int{1, 2, 3, 100, 498, 499} {
			for _, play := range playsWithSum(k, 2) {
				more := playBoxByHand(2, 2, play, 1)
				b := joined(boxByTimes(sumBoxByHand(k), times), more)
				wantPart(t, b, k, b.Whole-1)
				wantRest(t, b, boxByTimes(more, 2))
				checkPart(t, b)
			}
			for _, play := range playsWithSum(k, -2) {
				// One with the least k-th sum takes away as much as an equal-sum box gives.
				b := joined(boxByTimes(sumBoxByHand(k), times), playBoxByHand(2, 2, play, 1))
				wantPart(t, b, k, 2*times-2)
				checkPart(t, b)
			}
			b := beyondBox(r, k, times, 2)
			wantPart(t, b, k, b.Whole-2)
			checkPart(t, b)
		}
	}
}

func TestRestsWithGreatWholes(t *testing.T) {
	r := rand.New(rand.NewSource(97))
	for k := range impl.SumKinds {
		// 2 times the plays and 2 times what is left of them is the Whole of the rest.
		for _, c := range []struct {
			times, plays int
			fits         bool
		}{
			{0, 499, true}, {0, 500, true}, {0, 501, false}, {0, 1000, false}, {1, 499, true}, {1, 500, true}, {1, 501, false},
			{100, 500, true}, {100, 501, false}, {249, 500, true}, {249, 501, false}, {250, 499, true}, {250, 500, true}, {249, 502, false},
		} {
			b := beyondBox(r, k, c.times, c.plays)
			rest, ok := impl.RestOf(b)
			if b.Whole != 2*c.times+c.plays || ok != c.fits || ok && rest.Whole != 2*c.plays {
				t.Errorf("RestOf(%v) = %v, %v", b, rest, ok)
			}
			checkPart(t, b)
		}
	}
}

func TestJoinPart(t *testing.T) {
	r := rand.New(rand.NewSource(98))
	tooGreat := 0
	for range 4000 {
		rest, k := someQuietOfTwo(r), r.Intn(impl.SumKinds)
		share := r.Intn([]int{3, 20, 500}[r.Intn(3)])
		mixture := joined(rest, boxByTimes(sumBoxByHand(k), share))
		if mixture.Whole > impl.MaxWhole {
			wantNotJoined(t, rest, k, share)
			tooGreat++
			continue
		}
		wantJoined(t, rest, k, share, leastByHand(mixture))
	}
	if tooGreat < 100 || tooGreat > 3000 {
		t.Errorf("%d mixtures were too great", tooGreat)
	}
}

// With the share 0 the Box with the least Whole is that of the rest alone.
func TestJoinPartWithTheShare0(t *testing.T) {
	for k := range impl.SumKinds {
		for _, e := range extremesByHand() {
			wantJoined(t, e, k, 0, leastByHand(e))
			wantJoined(t, boxByTimes(e, 500), k, 0, leastByHand(e))
		}
		noisy := box(2, 2, 10, []int{4, 1, 1, 4}, []int{4, 1, 1, 4}, []int{4, 1, 1, 4}, []int{1, 4, 4, 1})
		wantJoined(t, noisy, k, 0, noisy)
		wantJoined(t, boxByTimes(noisy, 100), k, 0, noisy)
	}
}

// The mixture must be a Box, even if one with a less Whole is alike.
func TestJoinPartWithGreatWholes(t *testing.T) {
	for k := range impl.SumKinds {
		e, play := sumBoxByHand(k), playBoxByHand(2, 2, []int{0, 1, 1, 0}, 1)
		wantJoined(t, boxByTimes(e, 499), k, 1, e)
		wantNotJoined(t, boxByTimes(e, 500), k, 1)
		wantJoined(t, e, k, 499, e)
		wantNotJoined(t, e, k, 500)
		wantJoined(t, boxByTimes(play, 998), k, 1, leastByHand(joined(boxByTimes(play, 998), e)))
		wantNotJoined(t, boxByTimes(play, 999), k, 1)
		wantNotJoined(t, boxByTimes(play, 1000), k, 1)
		wantJoined(t, play, k, 499, joined(play, boxByTimes(e, 499)))
		wantNotJoined(t, play, k, 500)
		wantJoined(t, boxByTimes(play, 500), k, 250, joined(boxByTimes(play, 2), e))
	}
}

func TestJoinPartWithWrongNumbers(t *testing.T) {
	rest := playBoxByHand(2, 2, []int{0, 0, 0, 0}, 3)
	for _, k := range badKinds(impl.SumKinds) {
		for _, share := range []int{0, 1, 2, -1, 1000} {
			wantNotJoined(t, rest, k, share)
		}
		for _, share := range extremeInts() {
			wantNotJoined(t, rest, k, share)
		}
	}
	// 2 times some of these, and their sum with the Whole, wrap around to a small number.
	shares := append(extremeInts(), -1, -2, -3, -500, 499, 500, 501, 1000, 1001, math.MinInt+2, math.MinInt+3, math.MinInt+100, 1<<62+1, -1<<62+5, 1<<63-2)
	for k := range impl.SumKinds {
		for _, share := range shares {
			wantNotJoined(t, rest, k, share)
			wantNotJoined(t, boxByTimes(sumBoxByHand(k), 500), k, share)
		}
	}
}
