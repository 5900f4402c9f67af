package tests

import (
	"fmt"
	"math/rand"
	"slices"
	"testing"

	"loop.example/g01141/impl"
)

func wantAsks(t *testing.T, a, b impl.Box, k int, first, second []int, sum int) {
	t.Helper()
	one, two, most, ok := impl.BestAsks(a, b, k)
	if !ok || !slices.Equal(one, first) || !slices.Equal(two, second) || most != sum {
		t.Fatalf("BestAsks(%v, %v, %d) = %v, %v, %d, %v; want %v, %v, %d, true", a, b, k, one, two, most, ok, first, second, sum)
	}
}

func wantNoAsks(t *testing.T, a, b impl.Box, k int) {
	t.Helper()
	one, two, most, ok := impl.BestAsks(a, b, k)
	if ok || len(one) != 0 || len(two) != 0 || most != 0 {
		t.Fatalf("BestAsks(%v, %v, %d) = %v, %v, %d, %v; want no lists, false", a, b, k, one, two, most, ok)
	}
}

// bestAsks is what is best for one k.
type bestAsks struct {
	first, second []int
	sum           int
}

// bestAsksByHand goes over all pairs of ask lists in order, for all k at once.
func bestAsksByHand(a, b impl.Box) []bestAsks {
	var best []bestAsks
	for _, first := range allLists(4, 2) {
		for _, second := range allLists(4, 2) {
			for k, sum := range eightSumsByHand(wiringByHand(a, b, sumRuleOf(first), sumRuleOf(second))) {
				if len(best) == k {
					best = append(best, bestAsks{first, second, sum})
				}
				if sum > best[k].sum {
					best[k] = bestAsks{first, second, sum}
				}
			}
		}
	}
	return best
}

// checkAsks compares all k with the definition, and the sums with those that the functions of the chapters return.
func checkAsks(t *testing.T, a, b impl.Box) []bestAsks {
	t.Helper()
	best := bestAsksByHand(a, b)
	for k, want := range best {
		wantAsks(t, a, b, k, want.first, want.second, want.sum)
		one, first := impl.SumRuleBy(want.first)
		two, second := impl.SumRuleBy(want.second)
		sums, ok := impl.EightSums(mustWire(t, a, b, one, two))
		if !first || !second || !ok || sums[k] != want.sum {
			t.Fatalf("the sums %v for %v, %v and %d", sums, a, b, k)
		}
	}
	return best
}

func TestBestAsksByHand(t *testing.T) {
	none := []int{0, 0, 0, 0}
	wantAsks(t, equalSums(), equalSums(), 0, none, none, 16)
	// A first Box that says nothing leaves the question of the second one to be asked.
	silent := playBoxByHand(2, 2, none, 3)
	wantAsks(t, silent, equalSums(), 0, []int{0, 0, 1, 0}, []int{0, 0, 1, 0}, 24)
	wantAsks(t, silent, equalSums(), 2, []int{1, 0, 0, 0}, []int{0, 0, 1, 0}, 24)
	wantAsks(t, silent, equalSums(), 4, []int{0, 0, 1, 0}, []int{1, 0, 0, 0}, 24)
	wantAsks(t, silent, equalSums(), 7, []int{1, 0, 0, 0}, []int{1, 0, 0, 0}, 24)
	// With answers that are all the same, nothing can be asked for.
	for k, sum := range []int{12, -12, 12, -12, 12, -12, -12, 12} {
		wantAsks(t, silent, playBoxByHand(2, 2, none, 2), k, none, none, sum)
		wantAsks(t, silent, playBoxByHand(2, 2, []int{1, 1, 0, 0}, 2), k, none, none, -sum)
	}
	// Where the first one says 1, the list has the question behind 1.
	loudly := playBoxByHand(2, 2, []int{1, 1, 1, 1}, 1)
	wantAsks(t, loudly, equalSums(), 0, []int{0, 0, 0, 1}, []int{0, 0, 0, 1}, 8)
	// The first player has the answer x, and the second one 1: with these lists, all rows but the last one are as they should be.
	wantAsks(t, playBoxByHand(2, 2, []int{0, 1, 1, 1}, 1), equalSums(), 0, []int{1, 0, 0, 0}, []int{0, 1, 0, 1}, 4)
}

func TestBestAsksOfExtremeBoxes(t *testing.T) {
	list := extremesByHand()
	for i, a := range list {
		for _, b := range []impl.Box{list[(5*i+3)%16], list[16+i%8], list[(7*i+1)%24]} {
			checkAsks(t, a, b)
			checkAsks(t, b, a)
		}
	}
}

// Many lists are best for some Boxes, some of them only with what the first Box answers.
func TestBestAsksOfAnyBoxes(t *testing.T) {
	r := rand.New(rand.NewSource(1019))
	firsts, seconds := map[string]bool{}, map[string]bool{}
	negative, looking := 0, 0
	for round := range 300 {
		a, b := quietOfAtMost(r, 31), quietOfAtMost(r, 31)
		if round%2 == 0 {
			a, b = boxOfWhole(r, 1+r.Intn(31)), boxOfWhole(r, 1+r.Intn(31))
		}
		for _, best := range checkAsks(t, a, b) {
			firsts[fmt.Sprint(best.first)], seconds[fmt.Sprint(best.second)] = true, true
			if best.sum < 0 {
				negative++
			}
			if best.first[0] != best.first[1] && best.second[2] != best.second[3] {
				looking++
			}
		}
	}
	if len(firsts) < 14 || len(seconds) < 14 || negative < 10 || looking < 100 {
		t.Errorf("%d first lists, %d second ones, %d sums less than 0, %d that look at answers", len(firsts), len(seconds), negative, looking)
	}
}

func TestBestAsksOfLoudBoxes(t *testing.T) {
	r := rand.New(rand.NewSource(1020))
	for _, loud := range loudOfTwo() {
		checkAsks(t, loud, quietOfAtMost(r, 10))
		checkAsks(t, quietOfAtMost(r, 10), loud)
	}
	for _, a := range allBoxes(2, 2, 1)[:40] {
		checkAsks(t, a, boxOfWhole(r, 1))
	}
}

// No sum of both is greater, nor is any by one ask list for both.
func TestBestAsksAreAtLeastSums(t *testing.T) {
	r := rand.New(rand.NewSource(1021))
	for range 200 {
		a, b := quietOfAtMost(r, 31), quietOfAtMost(r, 31)
		sum, ok := impl.SumBoxes(a, b)
		sums, is := impl.EightSums(sum)
		if !ok || !is {
			t.Fatalf("SumBoxes(%v, %v) fails", a, b)
		}
		for k := range impl.SumKinds {
			if _, _, most, ok := impl.BestAsks(a, b, k); !ok || most < sums[k] {
				t.Errorf("BestAsks(%v, %v, %d) has %d, and SumBoxes %d", a, b, k, most, sums[k])
			}
		}
	}
}

func TestWholesOfBestAsks(t *testing.T) {
	r := rand.New(rand.NewSource(1022))
	for _, most := range []int{1, 990, 999, impl.MaxWhole} {
		for _, wholes := range wholesUpTo(most) {
			checkAsks(t, boxOfWhole(r, wholes[0]), boxOfWhole(r, wholes[1]))
		}
	}
	for _, most := range []int{impl.MaxWhole + 1, impl.MaxWhole + 2, 1008, 500000, impl.MaxWhole * impl.MaxWhole} {
		for _, wholes := range wholesUpTo(most) {
			for k := range impl.SumKinds {
				wantNoAsks(t, boxOfWhole(r, wholes[0]), boxOfWhole(r, wholes[1]), k)
			}
		}
	}
	// A Box with a less Whole is alike, but it is not this one.
	wantNoAsks(t, boxByTimes(equalSums(), 16), boxByTimes(equalSums(), 16), 0)
}

func TestNoBestAsksOfOtherKinds(t *testing.T) {
	for _, k := range append(badKinds(impl.SumKinds), 16, 24, 1<<32) {
		wantNoAsks(t, equalSums(), equalSums(), k)
		wantNoAsks(t, playBoxByHand(2, 2, []int{0, 1, 1, 0}, 1), equalSums(), k)
		wantNoAsks(t, impl.Box{}, impl.Box{}, k)
	}
	for _, k := range []int{0, impl.SumKinds - 1} {
		if _, _, _, ok := impl.BestAsks(equalSums(), equalSums(), k); !ok {
			t.Errorf("BestAsks for %d fails", k)
		}
	}
}
