package tests

import (
	"fmt"
	"math/rand"
	"slices"
	"testing"

	"loop.example/g01141/impl"
)

// spread has lists for the rows and for the places of a sign game.
type spread struct {
	rows, places [][]int
}

func squares(list []int) int {
	sum := 0
	for _, n := range list {
		sum += n * n
	}
	return sum
}

// someLists are so many lists of d numbers with the same sum of squares, which is greater than 0.
func someLists(r *rand.Rand, count, d int) [][]int {
	first := someNumbersAround0(r, d)
	for squares(first) == 0 {
		first = someNumbersAround0(r, d)
	}
	lists := [][]int{first}
	for range 500 {
		if other := someNumbersAround0(r, d); len(lists) < count && squares(other) == squares(first) {
			lists = append(lists, other)
		}
	}
	// Where no others were found, the same numbers stand in other orders and with other signs.
	for len(lists) < count {
		other := slices.Clone(lists[r.Intn(len(lists))])
		r.Shuffle(d, func(i, j int) { other[i], other[j] = other[j], other[i] })
		for i := range other {
			other[i] *= 1 - 2*r.Intn(2)
		}
		lists = append(lists, other)
	}
	r.Shuffle(count, func(i, j int) { lists[i], lists[j] = lists[j], lists[i] })
	return lists
}

func someNumbersAround0(r *rand.Rand, size int) []int {
	list := make([]int, size)
	most := []int{1, 2, 5, impl.MaxSign}[r.Intn(4)]
	for i := range list {
		list[i] = r.Intn(2*most+1) - most
	}
	return list
}

func someSpread(r *rand.Rand, x, y, d int) spread {
	lists := someLists(r, x+y, d)
	return spread{lists[:x], lists[x:]}
}

func evenSpread(x, y int, list []int) spread {
	return spread{slices.Repeat([][]int{list}, x), slices.Repeat([][]int{list}, y)}
}

func worthOfSpreadByHand(m [][]int, s spread) int {
	worth := 0
	for x := range m {
		for y := range m[x] {
			for i := range s.rows[x] {
				worth += m[x][y] * s.rows[x][i] * s.places[y][i]
			}
		}
	}
	return worth
}

// checkSpread compares the worth and the length of a spread with the definition, and with the greatest worth that there is.
func checkSpread(t *testing.T, m [][]int, s spread) int {
	t.Helper()
	is, ok := impl.IsSpread(m, s.rows, s.places)
	wantReport(t, fmt.Sprintf("IsSpread(%v, %v)", m, s), is, ok, true)
	worth, length, ok := impl.SpreadWorth(m, s.rows, s.places)
	want := worthOfSpreadByHand(m, s)
	if !ok || worth != want || length != squares(s.rows[0]) {
		t.Fatalf("SpreadWorth(%v, %v) = %d, %d, %v; want %d, %d, true", m, s, worth, length, ok, want, squares(s.rows[0]))
	}
	if worth > length*sumOfSizes(m) {
		t.Fatalf("SpreadWorth(%v, %v) = %d, %d, more than the sum of all numbers", m, s, worth, length)
	}
	return worth
}

// wantNoSpread is for lists of any kind beside a valid sign game, for which IsSpread does not fail.
func wantNoSpread(t *testing.T, m [][]int, s spread) {
	t.Helper()
	is, ok := impl.IsSpread(m, s.rows, s.places)
	wantReport(t, fmt.Sprintf("IsSpread(%v, %v)", m, s), is, ok, false)
	worth, length, ok := impl.SpreadWorth(m, s.rows, s.places)
	if ok || worth != 0 || length != 0 {
		t.Fatalf("SpreadWorth(%v, %v) = %d, %d, %v; want 0, 0, false", m, s, worth, length, ok)
	}
}

func TestSpreadsByHand(t *testing.T) {
	m := [][]int{{1, 1}, {1, -1}}
	if worth := checkSpread(t, m, spread{[][]int{{5, 0}, {0, 5}}, [][]int{{3, 4}, {4, -3}}}); worth != 15+20+20+15 {
		t.Errorf("the worth is %d", worth)
	}
	// No signs are worth so much for their length: the bias is 2.
	wide := spread{[][]int{{7, 1}, {1, 7}}, [][]int{{5, 5}, {5, -5}}}
	if worth := checkSpread(t, m, wide); worth != 40+30+40+30 || worth <= 50*biasByHand(m) {
		t.Errorf("the worth is %d", worth)
	}
}

// Signs are spreads with lists of one number, and the length 1: the worth is the sum with these signs.
func TestSignsAreSpreads(t *testing.T) {
	r := rand.New(rand.NewSource(73))
	for _, size := range allSizes() {
		x, y := size[0], size[1]
		m := someSignNumbers(r, x, y)
		for _, rows := range allSigns(x) {
			for _, places := range allSigns(y) {
				worth, length, ok := impl.SpreadWorth(m, asLists(rows), asLists(places))
				if !ok || worth != sumWithSigns(m, rows, places) || length != 1 {
					t.Fatalf("SpreadWorth(%v, %v, %v) = %d, %d, %v", m, rows, places, worth, length, ok)
				}
			}
		}
		rows, places, _ := impl.BestSigns(m)
		bias, ok := impl.SignBias(m)
		wantNumber(t, "the bias", bias, ok, checkSpread(t, m, spread{asLists(rows), asLists(places)}))
	}
}

func TestSpreads(t *testing.T) {
	r := rand.New(rand.NewSource(74))
	for d := 1; d <= impl.MaxSpread; d++ {
		for _, size := range allSizes() {
			for range 30 {
				checkSpread(t, someSignNumbers(r, size[0], size[1]), someSpread(r, size[0], size[1], d))
			}
		}
	}
}

// The numbers are at the limits, and so the worth is up to 9 times that for each place of the lists.
func TestGreatestSpreads(t *testing.T) {
	for _, size := range allSizes() {
		x, y := size[0], size[1]
		for d := 1; d <= impl.MaxSpread; d++ {
			for _, n := range []int{9, -9} {
				for _, number := range []int{9, -9} {
					alike, other := evenSpread(x, y, slices.Repeat([]int{number}, d)), evenSpread(x, y, slices.Repeat([]int{-number}, d))
					if worth := checkSpread(t, evenNumbers(x, y, n), alike); worth != n*81*d*x*y {
						t.Errorf("the worth for %v is %d", alike, worth)
					}
					opposite := spread{alike.rows, other.places}
					if worth := checkSpread(t, evenNumbers(x, y, n), opposite); worth != -n*81*d*x*y {
						t.Errorf("the worth for %v is %d", opposite, worth)
					}
				}
			}
		}
	}
}

// Each place of a sign game is multiplied by its own lists.
func TestWorthOfEachPlace(t *testing.T) {
	r := rand.New(rand.NewSource(75))
	for _, size := range allSizes() {
		x, y := size[0], size[1]
		for place := range x * y {
			m := evenNumbers(x, y, 0)
			m[place/y][place%y] = 7
			for d := 1; d <= impl.MaxSpread; d++ {
				checkSpread(t, m, someSpread(r, x, y, d))
				checkSpread(t, evenNumbers(x, y, 0), someSpread(r, x, y, d))
			}
		}
	}
}

// isSpreadByHand is for lists of numbers that are not extreme.
func isSpreadByHand(s spread, x, y int) bool {
	if len(s.rows) != x || len(s.places) != y {
		return false
	}
	for _, list := range slices.Concat(s.rows, s.places) {
		if len(list) < 1 || len(list) > 4 || len(list) != len(s.rows[0]) || squares(list) != squares(s.rows[0]) || squares(list) == 0 {
			return false
		}
		if slices.Min(list) < -9 || slices.Max(list) > 9 {
			return false
		}
	}
	return true
}

func TestEachSmallListsAreASpreadExactlyIfTheLengthsAreTheSame(t *testing.T) {
	m := [][]int{{3, -2}}
	for d := range 3 {
		for _, numbers := range allLists(3*d, 4) {
			for i := range numbers {
				numbers[i]--
			}
			s := spread{[][]int{numbers[:d]}, [][]int{numbers[d : 2*d], numbers[2*d:]}}
			is, ok := impl.IsSpread(m, s.rows, s.places)
			wantReport(t, fmt.Sprintf("IsSpread(%v, %v)", m, s), is, ok, isSpreadByHand(s, 1, 2))
		}
	}
}

// flawedSpreads have one list, of the rows or of the places, that does not fit the others.
func flawedSpreads(s spread) []spread {
	var flawed []spread
	add := func(change func(s *spread)) {
		bad := spread{copyRows(s.rows), copyRows(s.places)}
		change(&bad)
		flawed = append(flawed, bad)
	}
	d, last := len(s.rows[0]), s.rows[0]
	add(func(s *spread) { s.rows = nil })
	add(func(s *spread) { s.places = nil })
	add(func(s *spread) { s.rows, s.places = nil, nil })
	add(func(s *spread) { s.rows = s.rows[1:] })
	add(func(s *spread) { s.places = s.places[1:] })
	add(func(s *spread) { s.rows = append(s.rows, last) })
	add(func(s *spread) { s.places = append(s.places, last) })
	add(func(s *spread) { s.rows, s.places = append(s.rows, last), s.places[1:] })
	add(func(s *spread) {
		s.rows, s.places = slices.Repeat([][]int{last}, 100), slices.Repeat([][]int{last}, 100)
	})
	others := [][]int{nil, {}, make([]int, d), last[:d-1], append(slices.Clone(last), 0), append(slices.Clone(last), 1), make([]int, 100)}
	for at := range d {
		for _, n := range append(extremeInts(), 10, -10, 11, -11) {
			other := slices.Clone(last)
			other[at] = n
			others = append(others, other)
		}
	}
	for _, other := range others {
		for place := range s.rows {
			add(func(s *spread) { s.rows[place] = other })
		}
		for place := range s.places {
			add(func(s *spread) { s.places[place] = other })
		}
	}
	return flawed
}

func TestFlawedSpreads(t *testing.T) {
	r := rand.New(rand.NewSource(76))
	for _, size := range allSizes() {
		x, y := size[0], size[1]
		for d := 1; d <= impl.MaxSpread; d++ {
			for _, s := range []spread{someSpread(r, x, y, d), evenSpread(x, y, plusSigns(d))} {
				for _, bad := range flawedSpreads(s) {
					wantNoSpread(t, markedSigns(x, y), bad)
					wantNoSpread(t, evenNumbers(x, y, 0), bad)
				}
			}
		}
	}
}

// All lists are alike in these: of zeros, of too many numbers or none, or out of range, some with squares that wrap around.
func TestListsThatFitEachOtherAreNotAlwaysASpread(t *testing.T) {
	lists := [][]int{
		nil, {}, {0}, {0, 0}, {0, 0, 0}, {0, 0, 0, 0}, {1, 0, 0, 0, 0}, {1, 1, 1, 1, 1}, {0, 0, 0, 0, 1}, {3, 4, 0, 0, 0, 0},
		{10}, {-10}, {10, 0}, {0, -10}, {1, 2, 3, 10}, {6, 8, 11, 1}, slices.Repeat([]int{1}, 100), slices.Repeat([]int{1}, 5000),
	}
	for _, n := range extremeInts() {
		lists = append(lists, []int{n}, []int{n, 1}, []int{1, n}, []int{0, 0, 3, n}, []int{n, n, n, n})
	}
	for _, size := range allSizes() {
		x, y := size[0], size[1]
		for _, list := range lists {
			wantNoSpread(t, markedSigns(x, y), evenSpread(x, y, list))
			// Beside them stands one list that is right.
			s := evenSpread(x, y, []int{1})
			s.rows = evenSpread(x, y, list).rows
			wantNoSpread(t, markedSigns(x, y), s)
			s = evenSpread(x, y, list)
			s.rows = evenSpread(x, y, []int{1}).rows
			wantNoSpread(t, markedSigns(x, y), s)
		}
	}
}

func TestSpreadsOfOtherLengths(t *testing.T) {
	m := [][]int{{1, 1}, {1, -1}}
	for _, s := range []spread{
		{[][]int{{1}, {1}}, [][]int{{1}, {2}}},
		{[][]int{{1}, {2}}, [][]int{{1}, {1}}},
		{[][]int{{2}, {2}}, [][]int{{1}, {1}}},
		{[][]int{{3, 4}, {5, 0}}, [][]int{{4, 3}, {4, 4}}},
		{[][]int{{3, 4}, {5, 0}}, [][]int{{4, 3}, {5}}},
		{[][]int{{5}, {5}}, [][]int{{3, 4}, {4, 3}}},
		{[][]int{{1, 2}, {1, 2}}, [][]int{{1, 2}, {0, 3}}},
		{[][]int{{0, 0}, {1, 0}}, [][]int{{1, 0}, {1, 0}}},
		{[][]int{{1, 0}, {1, 0}}, [][]int{{1, 0}, {0, 0}}},
	} {
		wantNoSpread(t, m, s)
	}
	checkSpread(t, m, spread{[][]int{{3, 4, 0, 0}, {5, 0, 0, 0}}, [][]int{{4, 2, 2, 1}, {0, 0, -3, -4}}})
}
