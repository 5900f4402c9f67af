package tests

import (
	"math/rand"
	"slices"

	"loop.example/g01141/impl"
)

// numbersBy makes a table of numbers that are told by the row and the place.
func numbersBy(rows, places int, number func(x, y int) int) [][]int {
	table := make([][]int, rows)
	for x := range rows {
		for y := range places {
			table[x] = append(table[x], number(x, y))
		}
	}
	return table
}

func evenNumbers(rows, places, n int) [][]int {
	return numbersBy(rows, places, func(int, int) int { return n })
}

// markedSigns has another number at each place, also without its sign, so that places can be told apart.
func markedSigns(x, y int) [][]int {
	return numbersBy(x, y, func(i, j int) int {
		n := 1 + 3*i + j
		if n%3 == 0 {
			return -n
		}
		return n
	})
}

// someSignNumbers are small or of any size, or have many of 0 and of those at the limits.
func someSignNumbers(r *rand.Rand, x, y int) [][]int {
	kind := r.Intn(4)
	return numbersBy(x, y, func(int, int) int {
		return [4]int{r.Intn(19) - 9, r.Intn(3) - 1, []int{0, 0, 9, -9}[r.Intn(4)], 1 - 2*r.Intn(2)}[kind]
	})
}

// allNumbers has all sign games of a size with numbers in -most..most.
func allNumbers(x, y, most int) [][][]int {
	var games [][][]int
	for _, list := range allLists(x*y, 2*most+1) {
		games = append(games, numbersBy(x, y, func(i, j int) int { return list[i*y+j] - most }))
	}
	return games
}

// allSigns has all lists of so many signs, in lexicographic order.
func allSigns(size int) [][]int {
	lists := allLists(size, 2)
	for _, list := range lists {
		for i := range list {
			list[i] = 2*list[i] - 1
		}
	}
	return lists
}

func someSigns(r *rand.Rand, size int) []int {
	lists := allSigns(size)
	return lists[r.Intn(len(lists))]
}

func plusSigns(size int) []int { return slices.Repeat([]int{1}, size) }

// badSigns has lists that are not so many signs.
func badSigns(size int) [][]int {
	lists := [][]int{nil, {}, plusSigns(size - 1), plusSigns(size + 1), plusSigns(size + 2), plusSigns(100), make([]int, size)}
	for place := range size {
		// The squares of some of the extreme numbers are 1 where they wrap around.
		for _, n := range append(extremeInts(), 0, 2, -2, 3, -3, 9, -9) {
			list := plusSigns(size)
			list[place] = n
			lists = append(lists, list)
		}
	}
	return lists
}

func sumWithSigns(m [][]int, rows, places []int) int {
	sum := 0
	for x := range m {
		for y := range m[x] {
			sum += m[x][y] * rows[x] * places[y]
		}
	}
	return sum
}

// bestSignsByHand has the bias and all pairs of lists of signs that have it, in order.
func bestSignsByHand(m [][]int) (bias int, best [][2][]int) {
	for _, rows := range allSigns(len(m)) {
		for _, places := range allSigns(len(m[0])) {
			sum := sumWithSigns(m, rows, places)
			if len(best) == 0 || sum > bias {
				bias, best = sum, nil
			}
			if sum == bias {
				best = append(best, [2][]int{rows, places})
			}
		}
	}
	return bias, best
}

func biasByHand(m [][]int) int {
	bias, _ := bestSignsByHand(m)
	return bias
}

// sumOfSizes is the sum of all numbers without their signs.
func sumOfSizes(m [][]int) int {
	sum := 0
	for _, row := range m {
		for _, n := range row {
			sum += max(n, -n)
		}
	}
	return sum
}

func switchedByHand(m [][]int, rows, places []int) [][]int {
	return numbersBy(len(m), len(m[0]), func(x, y int) int { return m[x][y] * rows[x] * places[y] })
}

func allSwitchedByHand(m [][]int) [][][]int {
	var games [][][]int
	for _, rows := range allSigns(len(m)) {
		for _, places := range allSigns(len(m[0])) {
			games = append(games, switchedByHand(m, rows, places))
		}
	}
	return games
}

func compareRows(m, n [][]int) int { return slices.CompareFunc(m, n, slices.Compare[[]int]) }

// asLists makes of each sign a list of one number.
func asLists(signs []int) [][]int {
	var lists [][]int
	for _, sign := range signs {
		lists = append(lists, []int{sign})
	}
	return lists
}

// ofSigns calls a function for a sign game that may not be valid, beside other arguments that fit a good one,
// and tells whether it was successful and whether all other results were zero.
type ofSigns func(bad, good [][]int) (ok bool, zero bool)

func callsOfSigns() map[string]ofSigns {
	return map[string]ofSigns{
		"IsSignGame": func(m, _ [][]int) (bool, bool) { return impl.IsSignGame(m), true },
		"SignBias":   func(m, _ [][]int) (bool, bool) { n, ok := impl.SignBias(m); return ok, n == 0 },
		"BestSigns": func(m, _ [][]int) (bool, bool) {
			rows, places, ok := impl.BestSigns(m)
			return ok, len(rows) == 0 && len(places) == 0
		},
		"CutOf": func(m, _ [][]int) (bool, bool) { n, ok := impl.CutOf(m); return ok, n == 0 },
		"SwitchSigns": func(m, good [][]int) (bool, bool) {
			n, ok := impl.SwitchSigns(m, plusSigns(len(good)), plusSigns(len(good[0])))
			return ok, len(n) == 0
		},
		"FirstSwitched":    func(m, _ [][]int) (bool, bool) { n, ok := impl.FirstSwitched(m); return ok, len(n) == 0 },
		"AreSwitched, 1st": func(m, good [][]int) (bool, bool) { are, ok := impl.AreSwitched(m, good); return ok, !are },
		"AreSwitched, 2nd": func(m, good [][]int) (bool, bool) { are, ok := impl.AreSwitched(good, m); return ok, !are },
		"AreSwitched":      func(m, _ [][]int) (bool, bool) { are, ok := impl.AreSwitched(m, m); return ok, !are },
		"SignFunctional":   func(m, _ [][]int) (bool, bool) { f, ok := impl.SignFunctional(m); return ok, len(f) == 0 },
		"SignWorth": func(m, good [][]int) (bool, bool) {
			x, y := len(good), len(good[0])
			n, ok := impl.SignWorth(m, playBoxByHand(x, y, make([]int, x+y), 1))
			return ok, n == 0
		},
		"IsSpread": func(m, good [][]int) (bool, bool) {
			is, ok := impl.IsSpread(m, asLists(plusSigns(len(good))), asLists(plusSigns(len(good[0]))))
			return ok, !is
		},
		"SpreadWorth": func(m, good [][]int) (bool, bool) {
			n, length, ok := impl.SpreadWorth(m, asLists(plusSigns(len(good))), asLists(plusSigns(len(good[0]))))
			return ok, n == 0 && length == 0
		},
		"IsLid": func(m, good [][]int) (bool, bool) {
			is, ok := impl.IsLid(m, slices.Repeat([]int{impl.MaxDiag}, len(good)+len(good[0])), 1)
			return ok, !is
		},
		"EvenLid": func(m, _ [][]int) (bool, bool) { lid, ok := impl.EvenLid(m, 1); return ok, len(lid) == 0 },
	}
}
