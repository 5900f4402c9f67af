package tests

import (
	"fmt"
	"math"
	"math/rand"
	"slices"
	"testing"

	"loop.example/g01141/impl"
)

// checkNoisySum takes numbers that are not valid, too.
func checkNoisySum(t *testing.T, k, share, noise int) bool {
	t.Helper()
	b, ok := impl.NoisySum(k, share, noise)
	what := fmt.Sprintf("NoisySum(%d, %d, %d)", k, share, noise)
	if k < 0 || k > 7 || share < 0 || share > 500 || noise < 0 || noise > 250 || share+noise == 0 || 2*share+4*noise > impl.MaxWhole {
		wantNoBox(t, what, b, ok)
		return false
	}
	sum := sumBoxByHand(k)
	wantBox(t, what, b, ok, boxBy(2, 2, 2*share+4*noise, func(x, y, a, c int) int { return share*numberAt(sum, x, y, a, c) + noise }))
	if !impl.IsBox(b) || !isQuietByHand(b) {
		t.Fatalf("%s = %v, which is not quiet", what, b)
	}
	sums, ok := impl.EightSums(b)
	if !ok || sums[k] != 8*share || slices.Max(sums) > 8*share {
		t.Fatalf("the sums of %s are %v", what, sums)
	}
	even, ok := impl.IsEvenBox(b)
	wantReport(t, "IsEvenBox of "+what, even, ok, true)
	return true
}

func TestNoisySumsByHand(t *testing.T) {
	b, ok := impl.NoisySum(0, 3, 1)
	wantBox(t, "NoisySum(0, 3, 1)", b, ok, box(2, 2, 10, []int{4, 1, 1, 4}, []int{4, 1, 1, 4}, []int{4, 1, 1, 4}, []int{1, 4, 4, 1}))
	b, ok = impl.NoisySum(2, 1, 0)
	wantBox(t, "NoisySum(2, 1, 0)", b, ok, box(2, 2, 2, []int{1, 0, 0, 1}, []int{0, 1, 1, 0}, []int{1, 0, 0, 1}, []int{1, 0, 0, 1}))
	b, ok = impl.NoisySum(2, 0, 1)
	wantBox(t, "NoisySum(2, 0, 1)", b, ok, box(2, 2, 4, []int{1, 1, 1, 1}, []int{1, 1, 1, 1}, []int{1, 1, 1, 1}, []int{1, 1, 1, 1}))
	b, ok = impl.NoisySum(7, 0, 0)
	wantNoBox(t, "NoisySum(7, 0, 0)", b, ok)
}

func TestNoisySums(t *testing.T) {
	for k := -1; k <= impl.SumKinds; k++ {
		for share := -2; share <= 12; share++ {
			for noise := -2; noise <= 12; noise++ {
				checkNoisySum(t, k, share, noise)
			}
		}
		for share := 13; share <= 510; share++ {
			checkNoisySum(t, k, share, 0)
			checkNoisySum(t, k, share, 1)
		}
		for noise := 13; noise <= 260; noise++ {
			checkNoisySum(t, k, 0, noise)
			checkNoisySum(t, k, 1, noise)
		}
	}
}

// With the noise n, the greatest share with which there is a Box is 500 less 2 n.
func TestNoisySumsWithGreatWholes(t *testing.T) {
	for k := range impl.SumKinds {
		for noise := range 251 {
			share := 500 - 2*noise
			if !checkNoisySum(t, k, share, noise) || checkNoisySum(t, k, share+1, noise) || checkNoisySum(t, k, share, noise+1) {
				t.Fatalf("NoisySum(%d, %d, %d) and those beyond", k, share, noise)
			}
		}
	}
}

func TestNoisySumsOfWrongNumbers(t *testing.T) {
	// 2 times, 4 times or 8 times some of these numbers, and sums of these, wrap around to small ones.
	numbers := append(extremeInts(), -1, -2, -4, -500, 251, 501, 1000, math.MinInt+1, math.MinInt+2, 1<<62+2, -1<<62+2, -1<<62+3, 1<<61+2)
	for _, n := range numbers {
		for k := range impl.SumKinds {
			for _, other := range append(numbers, 0, 1, 2, 100) {
				for _, c := range [][2]int{{n, other}, {other, n}, {n, -n}, {n, -n / 2}, {-2 * n, n}, {2 - 2*n, n}} {
					checkNoisySum(t, k, c[0], c[1])
				}
			}
			if n != 251 {
				checkNoisySum(t, k, n, 251)
			}
		}
		checkNoisySum(t, n, 1, 1)
		checkNoisySum(t, n, 1, 0)
		checkNoisySum(t, n, 0, 1)
	}
	for _, k := range badKinds(impl.SumKinds) {
		for _, c := range [][2]int{{0, 0}, {1, 0}, {0, 1}, {1, 1}, {-1, 1}, {1, -1}, {500, 0}, {0, 250}} {
			checkNoisySum(t, k, c[0], c[1])
		}
	}
}

// What is known of both Boxes tells the part: with less noise than half of the share, something is left of it.
func TestPartsOfNoisySums(t *testing.T) {
	for k := range impl.SumKinds {
		for _, c := range [][2]int{{1, 0}, {2, 1}, {3, 1}, {4, 1}, {4, 2}, {5, 2}, {6, 2}, {100, 49}, {100, 50}, {101, 50}, {498, 1}} {
			b, ok := impl.NoisySum(k, c[0], c[1])
			if !ok {
				t.Fatalf("NoisySum(%d, %d, %d) fails", k, c[0], c[1])
			}
			share := max(0, 2*c[0]-4*c[1])
			wantPart(t, b, k, share)
			checkPart(t, b)
			local, ok := impl.IsLocal(b)
			wantReport(t, fmt.Sprintf("IsLocal(%v)", b), local, ok, share == 0)
		}
	}
}

func checkEven(t *testing.T, b impl.Box) bool {
	t.Helper()
	want := true
	for question := range 2 {
		for answer := range 2 {
			first := numberAt(b, question, 0, answer, 0) + numberAt(b, question, 0, answer, 1)
			second := numberAt(b, 0, question, 0, answer) + numberAt(b, 0, question, 1, answer)
			want = want && 2*first == b.Whole && 2*second == b.Whole
		}
	}
	even, ok := impl.IsEvenBox(b)
	wantReport(t, fmt.Sprintf("IsEvenBox(%v)", b), even, ok, want)
	return want
}

func TestEvenBoxesByHand(t *testing.T) {
	for i, e := range extremesByHand() {
		even, ok := impl.IsEvenBox(e)
		wantReport(t, fmt.Sprintf("IsEvenBox of ExtremeBox(%d)", i), even, ok, i >= 16)
	}
	// One answer is a little more frequent than the other one.
	for place := range 4 {
		for _, more := range []int{-1, 0, 1} {
			counts := []int{5, 5, 5, 5}
			counts[place] += more
			if checkEven(t, quietBox(10, counts[:2], counts[2:], func(int, int) int { return 2 })) != (more == 0) {
				t.Errorf("a Box with %v of 10 for the answer 1 is even or not", counts)
			}
		}
	}
	// Half of an odd Whole is no number.
	checkEven(t, quietBox(5, []int{2, 2}, []int{2, 2}, func(int, int) int { return 1 }))
	checkEven(t, quietBox(5, []int{3, 3}, []int{3, 3}, func(int, int) int { return 1 }))
	checkEven(t, quietBox(999, []int{499, 499}, []int{499, 499}, func(int, int) int { return 1 }))
	checkEven(t, quietBox(1000, []int{500, 500}, []int{500, 500}, func(x, y int) int { return 500 * x * y }))
}

func TestEvenBoxes(t *testing.T) {
	r := rand.New(rand.NewSource(104))
	even := 0
	for whole := 1; whole <= 4; whole++ {
		for _, b := range allQuietBoxes(2, 2, whole) {
			if checkEven(t, b) {
				even++
			}
		}
	}
	// With the Whole 2 there are 2 rows for each place, and with the Whole 4 there are 3.
	if even != 2*2*2*2+3*3*3*3 {
		t.Errorf("%d small quiet Boxes are even", even)
	}
	for range 2000 {
		checkEven(t, someQuietOfTwo(r))
	}
}

func checkEvenOut(t *testing.T, b impl.Box) {
	t.Helper()
	mix, ok := impl.EvenOut(b)
	if 2*b.Whole > impl.MaxWhole {
		wantNoBox(t, fmt.Sprintf("EvenOut(%v)", b), mix, ok)
		return
	}
	wantBox(t, fmt.Sprintf("EvenOut(%v)", b), mix, ok, boxBy(2, 2, 2*b.Whole, func(x, y, a, c int) int {
		return numberAt(b, x, y, a, c) + numberAt(b, x, y, 1-a, 1-c)
	}))
	one, _ := impl.AgreementsOf(b)
	two, ok := impl.AgreementsOf(mix)
	wantList(t, "the agreements of EvenOut", two, ok, 2*one[0], 2*one[1], 2*one[2], 2*one[3])
	if isQuietByHand(b) && !checkEven(t, mix) {
		t.Fatalf("EvenOut(%v) = %v, which is not even", b, mix)
	}
}

func TestEvenOutByHand(t *testing.T) {
	b, ok := impl.EvenOut(box(2, 2, 10, []int{1, 2, 3, 4}, []int{0, 5, 1, 4}, []int{10, 0, 0, 0}, []int{0, 0, 7, 3}))
	wantBox(t, "EvenOut", b, ok, box(2, 2, 20, []int{5, 5, 5, 5}, []int{4, 6, 6, 4}, []int{10, 0, 0, 10}, []int{3, 7, 7, 3}))
	b, ok = impl.EvenOut(equalSums())
	wantBox(t, "EvenOut", b, ok, boxByTimes(equalSums(), 2))
	b, ok = impl.EvenOut(playBoxByHand(2, 2, []int{0, 0, 0, 1}, 500))
	wantBox(t, "EvenOut", b, ok, box(2, 2, 1000, []int{500, 0, 0, 500}, []int{0, 500, 500, 0}, []int{500, 0, 0, 500}, []int{0, 500, 500, 0}))
	b, ok = impl.EvenOut(playBoxByHand(2, 2, []int{0, 0, 0, 1}, 501))
	wantNoBox(t, "EvenOut", b, ok)
}

func TestEvenOut(t *testing.T) {
	r := rand.New(rand.NewSource(105))
	for _, b := range slices.Concat(allBoxes(2, 2, 1), allBoxes(2, 2, 2), loudOfTwo(), extremesByHand()) {
		checkEvenOut(t, b)
	}
	for _, play := range allLists(4, 2) {
		for _, whole := range []int{1, 2, 499, 500, 501, 502, 999, 1000} {
			checkEvenOut(t, playBoxByHand(2, 2, play, whole))
		}
	}
	for range 2000 {
		checkEvenOut(t, someBox(r, 2, 2))
		checkEvenOut(t, someQuietOfTwo(r))
	}
}
