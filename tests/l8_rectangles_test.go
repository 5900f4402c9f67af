package tests

import (
	"fmt"
	"math/rand"
	"slices"
	"testing"

	"loop.example/g01141/impl"
)

func wantIsPlain(t *testing.T, table [][]int, rows, columns []int, want bool) {
	t.Helper()
	plain, ok := impl.IsPlain(table, rows, columns)
	wantReport(t, fmt.Sprintf("IsPlain(%v, %v, %v)", table, rows, columns), plain, ok, want)
}

func wantFooling(t *testing.T, table [][]int, bit int, want ...[2]int) {
	t.Helper()
	pairs, ok := impl.FoolingSet(table, bit)
	if !ok || !slices.Equal(pairs, want) {
		t.Fatalf("FoolingSet(%v, %d) = %v, %v; want %v, true", table, bit, pairs, ok, want)
	}
}

func wantCover(t *testing.T, table [][]int, bit int, want int) {
	t.Helper()
	count, ok := impl.CoverNumber(table, bit)
	wantNumber(t, fmt.Sprintf("CoverNumber(%v, %d)", table, bit), count, ok, want)
}

func TestPlainByHand(t *testing.T) {
	table := task("1101", "1100", "0001")
	wantIsPlain(t, table, []int{0}, []int{0}, true)
	wantIsPlain(t, table, []int{2}, []int{0}, true)
	wantIsPlain(t, table, []int{0, 1}, []int{0, 1}, true)
	wantIsPlain(t, table, []int{0, 1}, []int{0, 1, 3}, false)
	wantIsPlain(t, table, []int{0, 2}, []int{3}, true)
	wantIsPlain(t, table, []int{0, 2}, []int{2, 3}, false)
	wantIsPlain(t, table, []int{0, 1, 2}, []int{2}, true)
	wantIsPlain(t, table, []int{0, 1, 2}, []int{0}, false)
	wantIsPlain(t, table, []int{0, 1, 2}, []int{0, 1, 2, 3}, false)
	wantIsPlain(t, table, []int{1, 2}, []int{2}, true)
	wantIsPlain(t, table, []int{2}, []int{0, 1, 2}, true)
}

// All rectangles are tried, from those of one place to the whole task.
func TestEachRectangle(t *testing.T) {
	counts := map[bool]int{}
	for _, table := range manyTasks(rand.New(rand.NewSource(156)), 40) {
		for _, rows := range allPlaces(len(table))[1:] {
			for _, columns := range allPlaces(len(table[0]))[1:] {
				want := isPlainByHand(table, rows, columns)
				wantIsPlain(t, table, rows, columns, want)
				counts[want]++
				if len(rows) == 1 && len(columns) == 1 && !want {
					t.Fatalf("one place of %v is not plain", table)
				}
			}
		}
		wantIsPlain(t, table, eventsFrom(0, len(table)), eventsFrom(0, len(table[0])), isPlainTask(table))
	}
	if counts[true] < 1000 || counts[false] < 1000 {
		t.Errorf("plain and other rectangles: %v", counts)
	}
}

func wantNoRectangle(t *testing.T, table [][]int, rows, columns []int) {
	t.Helper()
	plain, ok := impl.IsPlain(table, rows, columns)
	wantNoReport(t, fmt.Sprintf("IsPlain(%v, %v, %v)", table, rows, columns), plain, ok)
}

// badPlaces has lists that have no place, one that is not there, or places that do not ascend strictly.
func badPlaces(size int) [][]int {
	lists := [][]int{nil, {}, {-1}, {size}, {0, 0}, {0, size}, {-1, 0}, {size - 1, size - 1}, {1, 0}, {0, 1, 1}, {0, 2, 1}, eventsFrom(0, size+1), eventsFrom(-1, size+1), make([]int, 100)}
	for _, n := range extremeInts() {
		lists = append(lists, []int{n}, []int{0, n}, []int{n, 0}, []int{n, n})
	}
	return lists
}

func TestOtherListsAreNoRectangles(t *testing.T) {
	for _, size := range taskSizes() {
		for number := range 2 {
			table := evenTask(size[0], size[1], number)
			for _, rows := range badPlaces(size[0]) {
				for _, columns := range [][]int{{0}, {size[1] - 1}, eventsFrom(0, size[1])} {
					wantNoRectangle(t, table, rows, columns)
				}
			}
			for _, columns := range badPlaces(size[1]) {
				for _, rows := range [][]int{{0}, {size[0] - 1}, eventsFrom(0, size[0])} {
					wantNoRectangle(t, table, rows, columns)
				}
				wantNoRectangle(t, table, columns, columns)
			}
		}
	}
}

func TestEachSmallListIsOfPlacesExactlyIfItAscends(t *testing.T) {
	table := evenTask(3, 3, 1)
	for size := range 4 {
		for _, list := range allLists(size, 5) {
			for i := range list {
				list[i]--
			}
			if slices.ContainsFunc(allPlaces(3)[1:], func(places []int) bool { return slices.Equal(places, list) }) {
				wantIsPlain(t, table, list, []int{1}, true)
				wantIsPlain(t, table, []int{0, 2}, list, true)
				continue
			}
			wantNoRectangle(t, table, list, []int{1})
			wantNoRectangle(t, table, []int{0, 2}, list)
		}
	}
}

func TestFoolingSetsByHand(t *testing.T) {
	wantFooling(t, task("1"), 1, [2]int{0, 0})
	wantFooling(t, task("1"), 0)
	wantFooling(t, task("0110"), 1, [2]int{0, 1})
	wantFooling(t, task("0110"), 0, [2]int{0, 0})
	wantFooling(t, task("0", "1", "1"), 1, [2]int{1, 0})
	wantFooling(t, task("10", "01"), 1, [2]int{0, 0}, [2]int{1, 1})
	wantFooling(t, task("10", "01"), 0, [2]int{0, 1}, [2]int{1, 0})
	// Two places with the bit fool if one of the others lacks it; they need not ascend by the column.
	wantFooling(t, task("10", "11"), 1, [2]int{0, 0}, [2]int{1, 1})
	wantFooling(t, task("01", "11"), 1, [2]int{0, 1}, [2]int{1, 0})
	wantFooling(t, task("11", "11"), 1, [2]int{0, 0})
	wantFooling(t, task("110", "110", "001"), 1, [2]int{0, 0}, [2]int{2, 2})
	wantFooling(t, task("110", "110", "001"), 0, [2]int{0, 2}, [2]int{2, 0})
	// The longest list does not begin with the first place that has the bit.
	wantFooling(t, task("11", "10"), 1, [2]int{0, 1}, [2]int{1, 0})
	wantFooling(t, task("111", "101", "110"), 1, [2]int{0, 1}, [2]int{1, 0})
	wantFooling(t, task("1111", "1000", "0001"), 1, [2]int{0, 1}, [2]int{1, 0}, [2]int{2, 3})
	wantFooling(t, task("1000", "0100", "0010", "0001"), 1, [2]int{0, 0}, [2]int{1, 1}, [2]int{2, 2}, [2]int{3, 3})
	wantFooling(t, task("1111", "0111", "0011", "0001"), 1, [2]int{0, 0}, [2]int{1, 1}, [2]int{2, 2}, [2]int{3, 3})
	wantFooling(t, task("1111", "0111", "0011", "0001"), 0, [2]int{1, 0}, [2]int{2, 1}, [2]int{3, 2})
}

func TestCoversByHand(t *testing.T) {
	wantCover(t, task("1"), 1, 1)
	wantCover(t, task("1"), 0, 0)
	wantCover(t, task("0101"), 1, 1)
	wantCover(t, task("10", "01"), 1, 2)
	wantCover(t, task("11", "10"), 1, 2)
	wantCover(t, task("110", "111", "011"), 1, 2)
	wantCover(t, task("1010", "0101", "1010", "0101"), 1, 2)
	wantCover(t, task("0111", "1011", "1101", "1110"), 1, 4)
	wantCover(t, task("0111", "1011", "1101", "1110"), 0, 4)
	wantCover(t, task("011", "101", "110"), 1, 3)
	wantCover(t, task("1111", "0111", "0011", "0001"), 1, 4)
	wantCover(t, task("1111", "0111", "0011", "0001"), 0, 3)
	// Here, a cover by rows or columns alone takes three, and two rectangles share a place.
	wantCover(t, task("1100", "1110", "0110"), 1, 2)
	// Here, no list of four pairs shows that it takes four.
	wantCover(t, task("0111", "1011", "1110", "1100"), 1, 4)
	wantFooling(t, task("0111", "1011", "1110", "1100"), 1, [2]int{0, 1}, [2]int{1, 2}, [2]int{3, 0})
}

// Some lists of pairs are longer than others that begin with a less pair.
func TestFoolingSetsAndCovers(t *testing.T) {
	later, less := 0, 0
	listsOf := map[int][][]int{}
	for places := 1; places <= 16; places++ {
		listsOf[places] = allPlaces(places)
	}
	for _, table := range manyTasks(rand.New(rand.NewSource(157)), 300) {
		for bit := range 2 {
			want := foolingByHand(table, bit, listsOf[len(table)*len(table[0])])
			wantFooling(t, table, bit, want...)
			cover := coverByHand(table, bit)
			wantCover(t, table, bit, cover)
			if len(want) > 0 && want[0] != firstPair(table, bit) {
				later++
			}
			if len(want) < cover {
				less++
			}
		}
	}
	if later < 100 || less < 3 {
		t.Errorf("%d lists begin later, and %d covers are greater than the lists", later, less)
	}
}

func firstPair(table [][]int, bit int) [2]int {
	for i, row := range table {
		if j := slices.Index(row, bit); j >= 0 {
			return [2]int{i, j}
		}
	}
	return [2]int{-1, -1}
}

// A plain rectangle has no two pairs of a FoolingSet, and neither more pairs nor more covers are there than the need allows.
func TestNoPlainRectangleHasTwoPairs(t *testing.T) {
	for _, table := range manyTasks(rand.New(rand.NewSource(158)), 300) {
		need, ok := impl.NeedOf(table)
		for bit := range 2 {
			pairs, first := impl.FoolingSet(table, bit)
			count, second := impl.CoverNumber(table, bit)
			if !ok || !first || !second || len(pairs) > count || count > 1<<need {
				t.Fatalf("%v, %d: the pairs %v, a cover of %d, the need %d", table, bit, pairs, count, need)
			}
			for at, p := range pairs {
				for _, q := range pairs[:at] {
					rows, columns := []int{q[0], p[0]}, []int{min(p[1], q[1]), max(p[1], q[1])}
					wantIsPlain(t, table, rows, columns, false)
				}
			}
			if (count == 0) != !hasNumber(table, bit) || (len(pairs) == 0) != (count == 0) {
				t.Fatalf("%v, %d: the pairs %v, a cover of %d", table, bit, pairs, count)
			}
		}
	}
}

func hasNumber(table [][]int, number int) bool {
	return slices.ContainsFunc(table, func(row []int) bool { return slices.Contains(row, number) })
}

func TestPlainTasksHaveOneRectangle(t *testing.T) {
	for _, size := range taskSizes() {
		for number := range 2 {
			table := evenTask(size[0], size[1], number)
			wantFooling(t, table, number, [2]int{0, 0})
			wantFooling(t, table, 1-number)
			wantCover(t, table, number, 1)
			wantCover(t, table, 1-number, 0)
		}
	}
}

func TestOtherBitsFail(t *testing.T) {
	for _, table := range [][][]int{task("0"), task("1"), task("10", "01"), evenTask(4, 4, 1), task("0110", "1001")} {
		for _, bit := range append(extremeInts(), -2, -1, 2, 3) {
			pairs, ok := impl.FoolingSet(table, bit)
			if ok || len(pairs) != 0 {
				t.Errorf("FoolingSet(%v, %d) = %v, %v", table, bit, pairs, ok)
			}
			count, ok := impl.CoverNumber(table, bit)
			wantNoNumber(t, fmt.Sprintf("CoverNumber(%v, %d)", table, bit), count, ok)
		}
	}
}
