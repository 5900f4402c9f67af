package tests

import (
	"fmt"
	"math/rand"
	"slices"
	"testing"

	"loop.example/g01141/impl"
)

func wantNever(t *testing.T, a [][]int, want bool) {
	t.Helper()
	never, ok := impl.IsNeverNegative(a)
	wantReport(t, fmt.Sprintf("IsNeverNegative(%v)", a), never, ok, want)
}

// checkNever compares IsNeverNegative with the definition: a list with a sum less than 0 is one, or there is none.
func checkNever(t *testing.T, a [][]int) bool {
	t.Helper()
	table := fractions(a)
	list := negativeList(table)
	if list != nil && sumFor(table, list).Sign() >= 0 {
		t.Fatalf("the sum of %v for %v is not less than 0", a, list)
	}
	wantNever(t, a, list == nil)
	return list == nil
}

// symmetricBy makes a matrix of numbers that are told by two places, the less one first.
func symmetricBy(size int, number func(i, j int) int) [][]int {
	a := evenNumbers(size, size, 0)
	for i := range size {
		for j := i; j < size; j++ {
			a[i][j] = number(i, j)
			a[j][i] = a[i][j]
		}
	}
	return a
}

// framed has one number on the diagonal, and another one elsewhere.
func framed(size, diagonal, other int) [][]int {
	return symmetricBy(size, func(i, j int) int {
		if i == j {
			return diagonal
		}
		return other
	})
}

// someProducts is a matrix of the products of some lists, which is never negative; with fewer numbers in each list than there are
// lists, its determinant is 0.
func someProducts(r *rand.Rand, size, numbers int) [][]int {
	lists := make([][]int, size)
	for i := range lists {
		for range numbers {
			lists[i] = append(lists[i], r.Intn(9)-4)
		}
	}
	return symmetricBy(size, func(i, j int) int {
		product := 0
		for at, n := range lists[i] {
			product += n * lists[j][at]
		}
		return product
	})
}

func someSymmetric(r *rand.Rand, size int) [][]int {
	kind := r.Intn(3)
	return symmetricBy(size, func(i, j int) int {
		most := []int{99, 3, 20}[kind]
		if i == j && kind > 0 {
			return r.Intn(99) * r.Intn(2)
		}
		return r.Intn(2*most+1) - most
	})
}

func TestMatricesByHand(t *testing.T) {
	for _, c := range []struct {
		a    [][]int
		want bool
	}{
		{[][]int{{0}}, true},
		{[][]int{{99}}, true},
		{[][]int{{-1}}, false},
		{[][]int{{1, 1}, {1, 1}}, true},
		{[][]int{{1, 2}, {2, 1}}, false},
		{[][]int{{0, 0}, {0, 0}}, true},
		{[][]int{{0, 1}, {1, 99}}, false},
		{[][]int{{4, 6}, {6, 9}}, true},
		{[][]int{{4, -6}, {-6, 9}}, true},
		{[][]int{{4, 6}, {6, 8}}, false},
		{[][]int{{-1, 0}, {0, -1}}, false},
		{[][]int{{2, -1, -1}, {-1, 2, -1}, {-1, -1, 2}}, true},
		{[][]int{{2, -1, -1}, {-1, 2, -1}, {-1, -1, 1}}, false},
		{[][]int{{1, 1, 0}, {1, 1, 1}, {0, 1, 1}}, false},
	} {
		wantNever(t, c.a, c.want)
		checkNever(t, c.a)
	}
}

func TestAllSmallMatrices(t *testing.T) {
	for n := -impl.MaxDiag; n <= impl.MaxDiag; n++ {
		wantNever(t, [][]int{{n}}, n >= 0)
	}
	for i := -8; i <= 8; i++ {
		for j := -8; j <= 8; j++ {
			for n := -8; n <= 8; n++ {
				a := [][]int{{i, n}, {n, j}}
				wantNever(t, a, i >= 0 && j >= 0 && i*j >= n*n)
				checkNever(t, a)
			}
		}
	}
	for _, list := range allLists(6, 4) {
		next := -1
		a := symmetricBy(3, func(i, j int) int { next++; return list[next] - 1 })
		checkNever(t, a)
	}
}

func TestMatrices(t *testing.T) {
	r := rand.New(rand.NewSource(77))
	is, not := 0, 0
	for size := 1; size <= 6; size++ {
		for range 150 {
			for _, a := range [][][]int{someSymmetric(r, size), someProducts(r, size, 1+r.Intn(size))} {
				if !areWithinByHand(a, 99) {
					continue
				}
				// A little less on the diagonal may be too little.
				less := copyRows(a)
				place := r.Intn(size)
				less[place][place] = max(less[place][place]-1, -99)
				for _, matrix := range [][][]int{a, less} {
					if checkNever(t, matrix) {
						is++
					} else {
						not++
					}
				}
			}
		}
	}
	if is < 300 || not < 300 {
		t.Errorf("%d matrices were never negative, and %d were not", is, not)
	}
}

func areWithinByHand(a [][]int, most int) bool {
	return !slices.ContainsFunc(a, func(row []int) bool { return slices.Min(row) < -most || slices.Max(row) > most })
}

// Products of lists are never negative, and with one list less than there are places, they have the determinant 0.
func TestProductsAreNeverNegative(t *testing.T) {
	r := rand.New(rand.NewSource(78))
	for size := 1; size <= 6; size++ {
		for numbers := 1; numbers <= size; numbers++ {
			for range 30 {
				if a := someProducts(r, size, numbers); areWithinByHand(a, 99) {
					wantNever(t, a, true)
				}
			}
		}
	}
}

// chosen has 1 or -1 beside the diagonal for a choice of rows and columns, as their signs tell, one number on the diagonal for these
// and another one for the others, and 0 elsewhere. With one less than the number of rows of the choice, it has the determinant 0 for
// this choice, and with 1 less, a negative one, and 0 for the choices with one row less.
func chosen(choice, signs []int, diagonal, others int) [][]int {
	return symmetricBy(len(choice), func(i, j int) int {
		switch {
		case i != j:
			return -choice[i] * choice[j] * signs[i] * signs[j]
		case choice[i] == 1:
			return diagonal
		}
		return others
	})
}

// No smaller choice has a determinant less than 0, and each greater one has 0, or else the others have great numbers on the diagonal.
func TestOneChoiceOfRowsAndColumnsDecides(t *testing.T) {
	r := rand.New(rand.NewSource(81))
	for size := 1; size <= 6; size++ {
		for _, choice := range allLists(size, 2)[1:] {
			count := 0
			for _, n := range choice {
				count += n
			}
			for _, others := range []int{0, 1, 99} {
				for _, signs := range [][]int{plusSigns(size), someSigns(r, size)} {
					wantNever(t, chosen(choice, signs, count-2, others), false)
					wantNever(t, chosen(choice, signs, count-1, others), true)
					checkNever(t, chosen(choice, signs, count-2, others))
					checkNever(t, chosen(choice, signs, count-1, others))
				}
			}
		}
	}
}

// conference has 0 on the diagonal and 1 or -1 elsewhere, where the products of any two rows are 0: with n on the diagonal, it is
// never negative exactly if n * n is at least 5.
func conference(diagonal, times int) [][]int {
	odd := [][]int{
		{0, 1, 1, 1, 1, 1}, {1, 0, 1, -1, -1, 1}, {1, 1, 0, 1, -1, -1}, {1, -1, 1, 0, 1, -1}, {1, -1, -1, 1, 0, 1}, {1, 1, -1, -1, 1, 0},
	}
	return symmetricBy(6, func(i, j int) int {
		if i == j {
			return diagonal
		}
		return times * odd[i][j]
	})
}

// The greatest determinants are those of such matrices.
func TestGreatestMatrices(t *testing.T) {
	for times := -99; times <= 99; times++ {
		for _, diagonal := range []int{-99, -1, 0, 1, 2, 3, 50, 97, 98, 99} {
			a := conference(diagonal, times)
			wantNever(t, a, diagonal >= 0 && diagonal*diagonal >= 5*times*times)
			checkNever(t, a)
		}
	}
	for size := 1; size <= 6; size++ {
		wantNever(t, framed(size, 99, 99), true)
		wantNever(t, framed(size, 99, 98), true)
		wantNever(t, framed(size, 98, 99), size == 1)
		wantNever(t, framed(size, 99, 0), true)
		wantNever(t, framed(size, 0, 0), true)
		wantNever(t, framed(size, -99, -99), false)
		wantNever(t, framed(size, 99, -99), size <= 2)
		for other := 0; other <= 99; other++ {
			wantNever(t, framed(size, 99, -other), (size-1)*other <= 99)
		}
	}
}

// More on the diagonal leaves a matrix as it is: never negative.
func TestMoreOnTheDiagonalIsNeverNegative(t *testing.T) {
	r := rand.New(rand.NewSource(79))
	count := 0
	for count < 500 {
		size := 1 + r.Intn(6)
		a := someProducts(r, size, 1+r.Intn(size))
		if !areWithinByHand(a, 99) {
			continue
		}
		count++
		wantNever(t, a, true)
		for i := range a {
			a[i][i] += r.Intn(100-a[i][i]) * r.Intn(2)
			wantNever(t, a, true)
		}
	}
}

// Rows and columns in another order, or with other signs, make no difference.
func TestTurnedMatrices(t *testing.T) {
	r := rand.New(rand.NewSource(80))
	for range 500 {
		size := 1 + r.Intn(6)
		a := someSymmetric(r, size)
		if b := someProducts(r, size, size); r.Intn(2) == 0 && areWithinByHand(b, 99) {
			a = b
		}
		want := checkNever(t, a)
		order, signs := r.Perm(size), someSigns(r, size)
		wantNever(t, symmetricBy(size, func(i, j int) int { return a[order[i]][order[j]] * signs[i] * signs[j] }), want)
	}
}

func wantNoMatrix(t *testing.T, a [][]int) {
	t.Helper()
	never, ok := impl.IsNeverNegative(a)
	wantNoReport(t, fmt.Sprintf("IsNeverNegative(%v)", a), never, ok)
}

func TestOthersAreNoMatrices(t *testing.T) {
	for _, a := range [][][]int{
		nil, {}, {nil}, {{}}, {{1, 1}}, {{1}, {1}}, {{1, 1}, {1}}, {{1}, {1, 1}}, {{1, 1, 1}, {1, 1, 1}}, {{1, 1}, {1, 1}, {1, 1}},
		{{1, 1}, {0, 1}}, {{1, 0}, {1, 1}}, {{1, 1}, {-1, 1}}, {{0, 0}, {1, 0}}, {{1, 0}, nil}, {nil, {0, 1}}, {{1, 0}, {0, 1, 0}},
		framed(7, 1, 0), framed(8, 1, 0), framed(100, 1, 0), evenNumbers(0, 6, 1), evenNumbers(6, 0, 1), evenNumbers(6, 7, 1),
		evenNumbers(7, 6, 1), evenNumbers(1, 7, 1), evenNumbers(7, 1, 1), make([][]int, 6), make([][]int, 100),
	} {
		wantNoMatrix(t, a)
	}
	for size := 1; size <= 6; size++ {
		wantNever(t, framed(size, 1, 0), true)
		for i := range size {
			for j := range size {
				for _, n := range append(extremeInts(), 100, -100, 101, -101, 1000) {
					a := framed(size, 1, 0)
					a[i][j], a[j][i] = n, n
					wantNoMatrix(t, a)
				}
				a := framed(size, 1, 0)
				a[i][j]++
				if i != j {
					wantNoMatrix(t, a)
				}
			}
			ragged := framed(size, 1, 0)
			ragged[i] = append(ragged[i], 0)
			wantNoMatrix(t, ragged)
			ragged[i] = ragged[i][:size-1]
			wantNoMatrix(t, ragged)
		}
	}
}
