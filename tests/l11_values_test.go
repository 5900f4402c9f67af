package tests

import (
	"fmt"
	"math/rand"
	"slices"
	"testing"

	"loop.example/g01141/impl"
)

// parities tell for each trio play, in order, which rows have answers with an odd sum.
func parities() [][]int {
	var lists [][]int
	for _, play := range allLists(6, 2) {
		var list []int
		for _, q := range triplesOfBits {
			list = append(list, (play[q[0]]+play[2+q[1]]+play[4+q[2]])%2)
		}
		lists = append(lists, list)
	}
	return lists
}

func trioValueByHand(plays [][]int, weights, odd []int) int {
	value := 0
	for _, list := range plays {
		score := 0
		for place, weight := range weights {
			if list[place] == odd[place] {
				score += weight
			}
		}
		value = max(value, score)
	}
	return value
}

func wantTrioValue(t *testing.T, weights, odd []int, want int) {
	t.Helper()
	value, ok := impl.TrioValue(weights, odd)
	wantNumber(t, fmt.Sprintf("TrioValue(%v, %v)", weights, odd), value, ok, want)
}

func wantNoTrioValue(t *testing.T, weights, odd []int) {
	t.Helper()
	value, ok := impl.TrioValue(weights, odd)
	wantNoNumber(t, fmt.Sprintf("TrioValue(%v, %v)", weights, odd), value, ok)
}

func TestTrioValueByHand(t *testing.T) {
	odd := []int{0, 0, 0, 1, 0, 1, 1, 0}
	// Of the four rows of the sign sum, no play has all as told, and one that has three of them may have all others, too.
	wantTrioValue(t, []int{1, 0, 0, 1, 0, 1, 1, 0}, odd, 3)
	wantTrioValue(t, []int{5, 0, 0, 7, 0, 4, 9, 0}, odd, 21)
	wantTrioValue(t, []int{99, 0, 0, 99, 0, 99, 99, 0}, odd, 297)
	wantTrioValue(t, slices.Repeat([]int{1}, 8), odd, 7)
	// Of the rows of the group sum, two are lost.
	wantTrioValue(t, slices.Repeat([]int{1}, 8), []int{0, 0, 0, 1, 0, 1, 1, 1}, 6)
}

func TestTrioValueOfEvenLists(t *testing.T) {
	r := rand.New(rand.NewSource(1113))
	zeros, ones, most := make([]int, 8), slices.Repeat([]int{1}, 8), slices.Repeat([]int{impl.MaxStake}, 8)
	wantTrioValue(t, most, zeros, 8*impl.MaxStake)
	wantTrioValue(t, most, ones, 8*impl.MaxStake)
	wantTrioValue(t, ones, zeros, 8)
	for _, odd := range allLists(8, 2) {
		wantTrioValue(t, zeros, odd, 0)
		weights := someNumbers(r, 8, impl.MaxStake)
		wantTrioValue(t, weights, zeros, sumOf(weights))
		wantTrioValue(t, weights, ones, sumOf(weights))
	}
	for place := range 8 {
		for weight := range impl.MaxStake + 1 {
			weights := make([]int, 8)
			weights[place] = weight
			wantTrioValue(t, weights, someBits(r, 8), weight)
		}
	}
}

// Each list is told by a trio play, or by none, in which case a weight is lost in each row that it differs in.
func TestTrioValueOfAllLists(t *testing.T) {
	r := rand.New(rand.NewSource(1114))
	plays := parities()
	perfect := 0
	for _, odd := range allLists(8, 2) {
		ones := slices.Repeat([]int{1}, 8)
		wantTrioValue(t, ones, odd, trioValueByHand(plays, ones, odd))
		if trioValueByHand(plays, ones, odd) == 8 {
			perfect++
		}
		for range 20 {
			weights := make([]int, 8)
			for i := range weights {
				weights[i] = []int{0, 1, impl.MaxStake, r.Intn(5), r.Intn(impl.MaxStake + 1)}[r.Intn(5)]
			}
			wantTrioValue(t, weights, odd, trioValueByHand(plays, weights, odd))
		}
	}
	if perfect != 16 {
		t.Errorf("%d lists are told by a play", perfect)
	}
}

// The value is what the best TrioOf has: no list of weights and signs is worth more for another one.
func TestTrioValueIsTheBestTrioOf(t *testing.T) {
	r := rand.New(rand.NewSource(1115))
	for range 300 {
		weights, odd := someNumbers(r, 8, impl.MaxStake), someBits(r, 8)
		best := -8 * impl.MaxStake
		for _, play := range allLists(6, 2) {
			trio, _ := impl.TrioOf(play, 1)
			agreements, ok := impl.TripleAgreements(trio)
			if !ok {
				t.Fatalf("TripleAgreements(%v) fails", trio)
			}
			sum := 0
			for place, agreement := range agreements {
				sum += weights[place] * agreement * (1 - 2*odd[place])
			}
			best = max(best, sum)
		}
		// What is not lost counts once for the value, and twice for the sum of what is won less what is lost.
		wantTrioValue(t, weights, odd, (best+sumOf(weights))/2)
	}
}

func TestTrioValueOfOtherLists(t *testing.T) {
	weights, odd := []int{1, 2, 3, 4, 5, 6, 7, 8}, []int{0, 1, 0, 0, 1, 1, 0, 1}
	for _, bad := range badBits(8) {
		wantNoTrioValue(t, weights, bad)
		wantNoTrioValue(t, bad[:min(len(bad), 7)], odd)
	}
	for _, list := range [][]int{nil, {}, {1}, make([]int, 6), make([]int, 7), make([]int, 9), make([]int, 16), make([]int, 64)} {
		wantNoTrioValue(t, list, odd)
		wantNoTrioValue(t, weights, list)
		wantNoTrioValue(t, list, list)
	}
	for place := range 8 {
		for _, n := range append(extremeInts(), -impl.MaxStake, -2, -1, impl.MaxStake+1, impl.MaxStake+2, 1000) {
			bad := slices.Clone(weights)
			bad[place] = n
			wantNoTrioValue(t, bad, odd)
			wantNoTrioValue(t, bad, make([]int, 8))
		}
		good := slices.Clone(weights)
		good[place] = impl.MaxStake
		wantTrioValue(t, good, odd, trioValueByHand(parities(), good, odd))
	}
}
