package tests

import (
	"math"
	"math/rand"
	"slices"
	"testing"

	"loop.example/g01141/impl"
)

// numberAt is the number of a Box for the answers a and c to the questions x and y.
func numberAt(b impl.Box, x, y, a, c int) int { return b.Rows[x*b.Y+y][2*a+c] }

// boxBy makes a Box of numbers that are told by questions and answers.
func boxBy(x, y, whole int, number func(x, y, a, c int) int) impl.Box {
	b := impl.Box{X: x, Y: y, Whole: whole}
	for i := range x {
		for j := range y {
			b.Rows = append(b.Rows, []int{number(i, j, 0, 0), number(i, j, 0, 1), number(i, j, 1, 0), number(i, j, 1, 1)})
		}
	}
	return b
}

func box(x, y, whole int, rows ...[]int) impl.Box {
	return impl.Box{X: x, Y: y, Whole: whole, Rows: rows}
}

// markedBox has another number at nearly every place, so that places can be told apart.
func markedBox(x, y, whole int) impl.Box {
	return boxBy(x, y, whole, func(i, j, a, c int) int {
		row := 3 * (i*3 + j)
		if a == 1 && c == 1 {
			return whole - 3*row - 6
		}
		return row + 1 + 2*a + c
	})
}

func copyRows(rows [][]int) [][]int {
	list := slices.Clone(rows)
	for i := range list {
		list[i] = slices.Clone(list[i])
	}
	return list
}

func copyBox(b impl.Box) impl.Box {
	b.Rows = copyRows(b.Rows)
	return b
}

func sameRows(a, b [][]int) bool { return slices.EqualFunc(a, b, slices.Equal[[]int]) }

func sameBox(a, b impl.Box) bool {
	return a.X == b.X && a.Y == b.Y && a.Whole == b.Whole && sameRows(a.Rows, b.Rows)
}

func isZeroBox(b impl.Box) bool { return b.X == 0 && b.Y == 0 && b.Whole == 0 && len(b.Rows) == 0 }

func wantBox(t *testing.T, what string, got impl.Box, ok bool, want impl.Box) {
	t.Helper()
	if !ok || !sameBox(got, want) {
		t.Fatalf("%s = %v, %v; want %v, true", what, got, ok, want)
	}
}

func wantNoBox(t *testing.T, what string, got impl.Box, ok bool) {
	t.Helper()
	if ok || !isZeroBox(got) {
		t.Fatalf("%s = %v, %v; want no Box, false", what, got, ok)
	}
}

func wantList(t *testing.T, what string, got []int, ok bool, want ...int) {
	t.Helper()
	if !ok || !slices.Equal(got, want) {
		t.Fatalf("%s = %v, %v; want %v, true", what, got, ok, want)
	}
}

func wantNoList(t *testing.T, what string, got []int, ok bool) {
	t.Helper()
	if ok || len(got) != 0 {
		t.Fatalf("%s = %v, %v; want no list, false", what, got, ok)
	}
}

func mustPlayBox(t *testing.T, x, y int, play []int, whole int) impl.Box {
	t.Helper()
	b, ok := impl.PlayBox(x, y, play, whole)
	if !ok {
		t.Fatalf("PlayBox(%d, %d, %v, %d) fails", x, y, play, whole)
	}
	return b
}

func mustMix(t *testing.T, a, b impl.Box) impl.Box {
	t.Helper()
	mix, ok := impl.MixBoxes(a, b)
	if !ok {
		t.Fatalf("MixBoxes(%v, %v) fails", a, b)
	}
	return mix
}

// allSizes has all pairs of numbers of questions.
func allSizes() [][2]int {
	var sizes [][2]int
	for x := 1; x <= 3; x++ {
		for y := 1; y <= 3; y++ {
			sizes = append(sizes, [2]int{x, y})
		}
	}
	return sizes
}

// badSizes has pairs of numbers of questions that no Box has, some with a small product.
func badSizes() [][2]int {
	sizes := [][2]int{{-1, -1}, {-2, -2}, {-1, -3}, {-3, -1}, {4, 4}, {1 << 32, 1 << 32}, {math.MinInt, 2}, {2, math.MinInt}}
	for _, bad := range []int{0, -1, -2, 4, 5, 100, 1 << 32, math.MaxInt, math.MinInt} {
		for good := 1; good <= 3; good++ {
			sizes = append(sizes, [2]int{bad, good}, [2]int{good, bad})
		}
		sizes = append(sizes, [2]int{bad, bad})
	}
	return sizes
}

// extremeInts are far from all numbers that a Box, a play or a functional has.
func extremeInts() []int {
	return []int{math.MinInt, math.MinInt + 1, math.MinInt32, -1 << 62, -1 << 61, 1 << 32, 1 << 61, 1<<61 + 1, 1 << 62, 1<<62 + 1, math.MaxInt - 1, math.MaxInt}
}

// allLists has all lists of a size with numbers less than base, in lexicographic order.
func allLists(size, base int) [][]int {
	lists := [][]int{{}}
	for range size {
		var longer [][]int
		for _, list := range lists {
			for n := range base {
				longer = append(longer, append(slices.Clone(list), n))
			}
		}
		lists = longer
	}
	return lists
}

// badBits has lists that are none of so many numbers 0 or 1.
func badBits(size int) [][]int {
	lists := [][]int{make([]int, size+1), make([]int, size+2), make([]int, 100)}
	if size > 0 {
		lists = append(lists, nil, []int{}, make([]int, size-1))
	}
	for place := range size {
		for _, n := range append(extremeInts(), -2, -1, 2, 3) {
			list := make([]int, size)
			list[place] = n
			lists = append(lists, list)
		}
	}
	return lists
}

// allRows has all rows with a sum.
func allRows(whole int) [][]int {
	var rows [][]int
	for i := 0; i <= whole; i++ {
		for j := 0; i+j <= whole; j++ {
			for k := 0; i+j+k <= whole; k++ {
				rows = append(rows, []int{i, j, k, whole - i - j - k})
			}
		}
	}
	return rows
}

// allBoxes has all Boxes of a size and with a Whole.
func allBoxes(x, y, whole int) []impl.Box {
	rows := allRows(whole)
	boxes := []impl.Box{{X: x, Y: y, Whole: whole}}
	for range x * y {
		var longer []impl.Box
		for _, b := range boxes {
			for _, row := range rows {
				next := copyBox(b)
				next.Rows = append(next.Rows, slices.Clone(row))
				longer = append(longer, next)
			}
		}
		boxes = longer
	}
	return boxes
}

func someRow(r *rand.Rand, whole int) []int {
	row := make([]int, 4)
	for left := whole; left > 0; {
		part := 1 + r.Intn(left)
		row[r.Intn(4)] += part
		left -= part
	}
	return row
}

func someBox(r *rand.Rand, x, y int) impl.Box {
	b := impl.Box{X: x, Y: y, Whole: []int{1, 2, 3, 4, 6, 10, 12, 60, 100, 500, 999, 1000}[r.Intn(12)]}
	for range x * y {
		b.Rows = append(b.Rows, someRow(r, b.Whole))
	}
	return b
}

func someBits(r *rand.Rand, size int) []int {
	list := make([]int, size)
	for i := range list {
		list[i] = r.Intn(2)
	}
	return list
}

// someQuietBox is a mixture of a few plays and, perhaps, of rows in which all is even.
func someQuietBox(r *rand.Rand, x, y int) impl.Box {
	noise := r.Intn(3)
	plays := [][]int{someBits(r, x+y), someBits(r, x+y), someBits(r, x+y)}[r.Intn(3):]
	shares := []int{1 + r.Intn(300), 1 + r.Intn(20), 1 + r.Intn(3)}
	whole := 4 * noise
	for i := range plays {
		whole += shares[i]
	}
	return boxBy(x, y, whole, func(i, j, a, c int) int {
		n := noise
		for k, play := range plays {
			if play[i] == a && play[x+j] == c {
				n += shares[k]
			}
		}
		return n
	})
}

func someFunctional(r *rand.Rand, x, y int) [][]int {
	var f [][]int
	for range x * y {
		factors := make([]int, 4)
		for i := range factors {
			factors[i] = []int{r.Intn(199) - 99, r.Intn(3) - 1, 99, -99, 0}[r.Intn(5)]
		}
		f = append(f, factors)
	}
	return f
}

func worthByHand(f [][]int, b impl.Box) int {
	worth := 0
	for i := range b.Rows {
		for j := range 4 {
			worth += f[i][j] * b.Rows[i][j]
		}
	}
	return worth
}
