package tests

import (
	"fmt"
	"math/rand"
	"slices"
	"sort"
	"testing"

	"loop.example/g01141/impl"
)

func evenLidOf(m [][]int, n int) []int { return slices.Repeat([]int{n}, len(m)+len(m[0])) }

func sumOf(list []int) int {
	sum := 0
	for _, n := range list {
		sum += n
	}
	return sum
}

// isLidByHand spells out the matrix, and looks for a list of numbers with a sum less than 0.
func isLidByHand(m [][]int, lid []int, k int) bool {
	x, y := len(m), len(m[0])
	if len(lid) != x+y || slices.Min(lid) < 0 || slices.Max(lid) > 99 {
		return false
	}
	return negativeList(fractions(symmetricBy(x+y, func(i, j int) int {
		switch {
		case i == j:
			return lid[i]
		case i < x && j >= x:
			return -k * m[i][j-x]
		}
		return 0
	}))) == nil
}

func wantLid(t *testing.T, m [][]int, lid []int, k int, want bool) {
	t.Helper()
	is, ok := impl.IsLid(m, lid, k)
	wantReport(t, fmt.Sprintf("IsLid(%v, %v, %d)", m, lid, k), is, ok, want)
}

func checkLid(t *testing.T, m [][]int, lid []int, k int) bool {
	t.Helper()
	want := isLidByHand(m, lid, k)
	wantLid(t, m, lid, k, want)
	return want
}

// checkEvenLid compares EvenLid with the definition: it is a lid, and there is none with one less; or else there is none at all.
func checkEvenLid(t *testing.T, m [][]int, k int) int {
	t.Helper()
	lid, ok := impl.EvenLid(m, k)
	if !ok {
		wantNoList(t, fmt.Sprintf("EvenLid(%v, %d)", m, k), lid, ok)
		wantLid(t, m, evenLidOf(m, impl.MaxDiag), k, false)
		checkLid(t, m, evenLidOf(m, impl.MaxDiag), k)
		return impl.MaxDiag + 1
	}
	n := lid[0]
	wantList(t, fmt.Sprintf("EvenLid(%v, %d)", m, k), lid, ok, evenLidOf(m, n)...)
	if !checkLid(t, m, lid, k) || n > 0 && checkLid(t, m, evenLidOf(m, n-1), k) {
		t.Fatalf("EvenLid(%v, %d) = %v", m, k, lid)
	}
	return n
}

func TestLidsByHand(t *testing.T) {
	m := [][]int{{1, 1}, {1, -1}}
	for _, c := range []struct {
		lid  []int
		k    int
		want bool
	}{
		{[]int{2, 2, 2, 2}, 1, true},
		{[]int{1, 1, 1, 1}, 1, false},
		{[]int{1, 1, 2, 2}, 1, true},
		{[]int{2, 2, 1, 1}, 1, true},
		{[]int{1, 2, 1, 2}, 1, false},
		{[]int{1, 3, 1, 2}, 1, false},
		{[]int{8, 8, 8, 8}, 5, true},
		{[]int{8, 8, 8, 7}, 5, true},
		{[]int{7, 7, 7, 7}, 5, false},
		{[]int{99, 99, 99, 0}, 1, false},
		{[]int{99, 99, 99, 1}, 1, true},
	} {
		checkLid(t, m, c.lid, c.k)
		wantLid(t, m, c.lid, c.k, c.want)
	}
	// With one number, the product of both must be at least its square.
	for n := -impl.MaxSign; n <= impl.MaxSign; n++ {
		for k := 1; k <= impl.MaxTimes; k++ {
			for first := 0; first <= 99; first++ {
				for _, second := range []int{0, 1, 2, 9, 20, 45, 50, 99} {
					wantLid(t, [][]int{{n}}, []int{first, second}, k, first*second >= k*k*n*n)
				}
			}
			lid, ok := impl.EvenLid([][]int{{n}}, k)
			wantList(t, fmt.Sprintf("EvenLid of %d with %d", n, k), lid, ok, max(n, -n)*k, max(n, -n)*k)
		}
	}
}

func TestEvenLidsByHand(t *testing.T) {
	for _, c := range []struct {
		m    [][]int
		k, n int
	}{
		{[][]int{{1, 1}, {1, -1}}, 1, 2},
		{[][]int{{1, 1}, {1, -1}}, 2, 3},
		{[][]int{{1, 1}, {1, -1}}, 3, 5},
		{[][]int{{1, 1}, {1, -1}}, 4, 6},
		{[][]int{{1, 1}, {1, -1}}, 5, 8},
		{[][]int{{3, 4}}, 1, 5},
		{[][]int{{3}, {-4}}, 5, 25},
		{[][]int{{1, 1, 1}}, 4, 7},
		{evenNumbers(3, 3, 9), 1, 27},
		{evenNumbers(3, 3, -9), 3, 81},
		{[][]int{{9, 0, 0}, {0, -9, 0}, {0, 0, 9}}, 5, 45},
		// The squares of all numbers have the sums 388 and 396, and so 9700 and 9900 with k * k, while the square of 99 is 9801.
		{[][]int{{9, 8, 7}, {9, 8, 7}}, 5, 99},
		{[][]int{{9, -9}, {8, -8}, {-7, 7}}, 5, 99},
		{[][]int{{9, 9, 6}, {9, 9, 6}}, 5, 100},
		{[][]int{{9, 9}, {-9, -9}, {6, 6}}, 5, 100},
		{evenNumbers(3, 3, 9), 4, 100},
		{evenNumbers(3, 3, 9), 5, 100},
	} {
		if n := checkEvenLid(t, c.m, c.k); n != c.n {
			t.Errorf("EvenLid(%v, %d) has the number %d, not %d", c.m, c.k, n, c.n)
		}
	}
}

// someGreatNumbers have nearly the greatest bias that there is, and so great lids.
func someGreatNumbers(r *rand.Rand, x, y int) [][]int {
	m := numbersBy(x, y, func(int, int) int { return impl.MaxSign - r.Intn(4) })
	return switchedByHand(m, someSigns(r, x), someSigns(r, y))
}

func TestEvenLids(t *testing.T) {
	r := rand.New(rand.NewSource(82))
	great, none := 0, 0
	for _, size := range allSizes() {
		for range 100 {
			for _, m := range [][][]int{someSignNumbers(r, size[0], size[1]), someGreatNumbers(r, size[0], size[1])} {
				k := 1 + r.Intn(impl.MaxTimes)
				switch n := checkEvenLid(t, m, k); {
				case n > impl.MaxDiag:
					none++
				case n > 80:
					great++
				}
			}
		}
	}
	if great < 20 || none < 20 {
		t.Errorf("%d sign games had great lids, and %d had none", great, none)
	}
	// An EvenLid is the least one of all.
	for range 20 {
		size := allSizes()[r.Intn(9)]
		m, k := someSignNumbers(r, size[0], size[1]), 1+r.Intn(impl.MaxTimes)
		least := checkEvenLid(t, m, k)
		for n := 0; n <= impl.MaxDiag; n++ {
			wantLid(t, m, evenLidOf(m, n), k, n >= least)
		}
	}
}

// someLid has numbers of any size, or each is k times the sum of those in its row, or at its place, without signs, or a little less.
func someLid(r *rand.Rand, m [][]int, k int) []int {
	lid := make([]int, len(m)+len(m[0]))
	for x := range m {
		for y, n := range m[x] {
			lid[x] += k * max(n, -n)
			lid[len(m)+y] += k * max(n, -n)
		}
	}
	kind := r.Intn(3)
	for i := range lid {
		switch kind {
		case 0:
			lid[i] = r.Intn(100)
		case 1:
			lid[i] -= r.Intn(3 * k)
		}
		lid[i] = min(max(lid[i], 0), 99)
	}
	return lid
}

func TestLids(t *testing.T) {
	r := rand.New(rand.NewSource(83))
	is, not := 0, 0
	for range 3000 {
		size := allSizes()[r.Intn(9)]
		m, k := someSignNumbers(r, size[0], size[1]), 1+r.Intn(impl.MaxTimes)
		if checkLid(t, m, someLid(r, m, k), k) {
			is++
		} else {
			not++
		}
	}
	if is < 500 || not < 500 {
		t.Errorf("%d lists were lids, and %d were not", is, not)
	}
}

// Where a row or a place has zeros alone, a lid can have 0 there, and otherwise it can not.
func TestLidsWith0AndMaxDiag(t *testing.T) {
	for _, size := range allSizes() {
		x, y := size[0], size[1]
		for k := 1; k <= impl.MaxTimes; k++ {
			zeros := evenNumbers(x, y, 0)
			wantLid(t, zeros, make([]int, x+y), k, true)
			wantLid(t, zeros, evenLidOf(zeros, impl.MaxDiag), k, true)
			lid, ok := impl.EvenLid(zeros, k)
			wantList(t, fmt.Sprintf("EvenLid(%v, %d)", zeros, k), lid, ok, make([]int, x+y)...)
			for place := range x * y {
				m := evenNumbers(x, y, 0)
				m[place/y][place%y] = 1
				lid := make([]int, x+y)
				lid[place/y], lid[x+place%y] = k, k
				wantLid(t, m, lid, k, true)
				lid[place/y], lid[x+place%y] = 99, 1
				wantLid(t, m, lid, k, true)
				lid[x+place%y] = 0
				wantLid(t, m, lid, k, false)
				wantLid(t, m, make([]int, x+y), k, false)
			}
		}
	}
}

// tightLid is one none of whose numbers can be less, or nil if there is none. They are lowered in any order, each as far as it goes,
// so that few of them are the same.
func tightLid(r *rand.Rand, m [][]int, k int) []int {
	lid := evenLidOf(m, impl.MaxDiag)
	if is, _ := impl.IsLid(m, lid, k); !is {
		return nil
	}
	for i := range lid {
		lid[i] -= r.Intn(20)
	}
	if is, _ := impl.IsLid(m, lid, k); !is {
		lid = evenLidOf(m, impl.MaxDiag)
	}
	for _, place := range r.Perm(len(lid)) {
		lid[place] = sort.Search(lid[place], func(n int) bool {
			less := slices.Clone(lid)
			less[place] = n
			is, _ := impl.IsLid(m, less, k)
			return is
		})
	}
	return lid
}

// checkBound compares a lid with the worths of spreads, and the bias.
func checkBound(t *testing.T, r *rand.Rand, m [][]int, lid []int, k int) {
	t.Helper()
	wantLid(t, m, lid, k, true)
	if bias, ok := impl.SignBias(m); !ok || 2*k*bias > sumOf(lid) {
		t.Fatalf("%v is a lid of %v with %d, and the bias is %d", lid, m, k, bias)
	}
	for d := 1; d <= impl.MaxSpread; d++ {
		s := someSpread(r, len(m), len(m[0]), d)
		worth, length, ok := impl.SpreadWorth(m, s.rows, s.places)
		if !ok || 2*k*worth > length*sumOf(lid) {
			t.Fatalf("%v is a lid of %v with %d, and the worth and the length of %v are %d, %d", lid, m, k, s, worth, length)
		}
	}
}

func TestLidsAreBoundsForSpreadsAndForSigns(t *testing.T) {
	r := rand.New(rand.NewSource(84))
	for _, size := range allSizes() {
		for range 30 {
			m := [][][]int{someSignNumbers(r, size[0], size[1]), someGreatNumbers(r, size[0], size[1])}[r.Intn(2)]
			for k := 1; k <= impl.MaxTimes; k++ {
				if lid := tightLid(r, m, k); lid != nil {
					checkBound(t, r, m, lid, k)
				}
				if lid, ok := impl.EvenLid(m, k); ok {
					checkBound(t, r, m, lid, k)
				}
				if lid := someLid(r, m, k); isLidByHand(m, lid, k) {
					checkBound(t, r, m, lid, k)
				}
			}
		}
	}
}

// In these, 2 times the bias is the sum of the lid, so that no lid can have a less sum.
func TestLidsThatAreReached(t *testing.T) {
	r := rand.New(rand.NewSource(85))
	for _, size := range [][2]int{{1, 1}, {2, 2}, {3, 3}} {
		side := size[0]
		for n := 1; n <= impl.MaxSign; n++ {
			for k := 1; k*n*side <= impl.MaxDiag && k <= impl.MaxTimes; k++ {
				m := switchedByHand(evenNumbers(side, side, n), someSigns(r, side), someSigns(r, side))
				lid, ok := impl.EvenLid(m, k)
				wantList(t, fmt.Sprintf("EvenLid(%v, %d)", m, k), lid, ok, evenLidOf(m, k*n*side)...)
				bias, ok := impl.SignBias(m)
				wantNumber(t, fmt.Sprintf("2 times %d times SignBias(%v)", k, m), 2*k*bias, ok, sumOf(lid))
				for place := range lid {
					less := slices.Clone(lid)
					less[place]--
					wantLid(t, m, less, k, false)
				}
			}
		}
	}
	// The spread by hand is worth 140 with the length 50: no lid for k = 5 has a sum of less than 28.
	m := [][]int{{1, 1}, {1, -1}}
	for _, lid := range allLists(4, 9) {
		if is, ok := impl.IsLid(m, lid, 5); !ok || is && sumOf(lid) < 28 {
			t.Errorf("IsLid(%v, %v, 5) = %v, %v", m, lid, is, ok)
		}
	}
}

func TestMoreOnALidIsALid(t *testing.T) {
	r := rand.New(rand.NewSource(86))
	for range 300 {
		size := allSizes()[r.Intn(9)]
		m, k := someSignNumbers(r, size[0], size[1]), 1+r.Intn(impl.MaxTimes)
		lid := tightLid(r, m, k)
		for place := range lid {
			if lid[place] > 0 {
				less := slices.Clone(lid)
				less[place]--
				wantLid(t, m, less, k, false)
			}
			more := slices.Clone(lid)
			more[place] += r.Intn(100 - lid[place])
			wantLid(t, m, more, k, true)
		}
	}
}

// It is no failure if a list is none of numbers of a lid.
func TestOtherListsAreNoLids(t *testing.T) {
	for _, size := range allSizes() {
		x, y := size[0], size[1]
		for _, m := range [][][]int{evenNumbers(x, y, 0), evenNumbers(x, y, 1)} {
			good := evenLidOf(m, 50)
			lists := [][]int{nil, {}, good[1:], append(slices.Clone(good), 50), append(slices.Clone(good), 0), good[:1], slices.Repeat([]int{50}, 100)}
			for place := range good {
				for _, n := range append(extremeInts(), -1, -2, 100, 101, 1000) {
					list := slices.Clone(good)
					list[place] = n
					lists = append(lists, list)
				}
			}
			for k := 1; k <= impl.MaxTimes; k++ {
				wantLid(t, m, good, k, true)
				for _, list := range lists {
					wantLid(t, m, list, k, false)
				}
			}
		}
	}
}

func TestLidsWithOtherTimes(t *testing.T) {
	for _, size := range allSizes() {
		for _, n := range []int{0, 1, 9} {
			m := evenNumbers(size[0], size[1], n)
			for _, k := range append(extremeInts(), 0, -1, -2, 6, 7, 100, 1<<32+1) {
				for _, lid := range [][]int{evenLidOf(m, impl.MaxDiag), evenLidOf(m, 0), nil} {
					is, ok := impl.IsLid(m, lid, k)
					wantNoReport(t, fmt.Sprintf("IsLid(%v, %v, %d)", m, lid, k), is, ok)
				}
				lid, ok := impl.EvenLid(m, k)
				wantNoList(t, fmt.Sprintf("EvenLid(%v, %d)", m, k), lid, ok)
			}
		}
	}
}
