package tests

import (
	"math/rand"
	"slices"
	"testing"

	"loop.example/g01141/impl"
)

// task makes one of texts of digits 0 and 1, one for each row.
func task(rows ...string) [][]int {
	var t [][]int
	for _, digits := range rows {
		row := []int{}
		for _, digit := range digits {
			row = append(row, int(digit-'0'))
		}
		t = append(t, row)
	}
	return t
}

func evenTask(rows, columns, number int) [][]int {
	return taskBy(rows, columns, func(int, int) int { return number })
}

func taskBy(rows, columns int, number func(i, j int) int) [][]int {
	t := make([][]int, rows)
	for i := range t {
		for j := range columns {
			t[i] = append(t[i], number(i, j))
		}
	}
	return t
}

// taskSizes has all numbers of rows and of columns.
func taskSizes() [][2]int {
	var sizes [][2]int
	for rows := 1; rows <= 4; rows++ {
		for columns := 1; columns <= 4; columns++ {
			sizes = append(sizes, [2]int{rows, columns})
		}
	}
	return sizes
}

// badSides has pairs of numbers of rows and of columns that no task has, some with a small product.
func badSides() [][2]int {
	sizes := [][2]int{{0, 0}, {-1, -1}, {-2, -2}, {-1, -4}, {5, 5}, {1 << 32, 1 << 32}}
	for _, bad := range append(extremeInts(), -4, -2, -1, 0, 5, 6, 16, 100) {
		for good := 1; good <= 4; good++ {
			sizes = append(sizes, [2]int{bad, good}, [2]int{good, bad})
		}
	}
	return sizes
}

// numberedTask has the binary digits of a number, the first one for the place 0 and 0.
func numberedTask(rows, columns, number int) [][]int {
	return taskBy(rows, columns, func(i, j int) int { return number >> (i*columns + j) & 1 })
}

func numberOfTask(t [][]int) int {
	number := 0
	for i, row := range t {
		for j, n := range row {
			number += n << (i*len(row) + j)
		}
	}
	return number
}

// someTask has any numbers, few of one kind, rows and columns that are there several times, or a number that two lists tell.
func someTask(r *rand.Rand, rows, columns int) [][]int {
	first, second := someBits(r, rows), someBits(r, columns)
	copies, kind := [2]int{1 + r.Intn(rows), 1 + r.Intn(columns)}, r.Intn(5)
	base := numberedTask(4, 4, int(r.Uint64()>>1))
	return taskBy(rows, columns, func(i, j int) int {
		switch kind {
		case 0:
			return base[i%copies[0]][j%copies[1]]
		case 1:
			return first[i] & second[j]
		case 2:
			return first[i] ^ second[j]
		case 3:
			return min(1, r.Intn(5))
		}
		return r.Intn(2)
	})
}

// smallTasks are all with at most 9 places, and some with 12.
func smallTasks() [][][]int {
	var tasks [][][]int
	for _, size := range taskSizes() {
		places, steps := size[0]*size[1], 1
		if places > 12 {
			continue
		}
		if places > 9 {
			steps = 5
		}
		for number := 0; number < 1<<places; number += steps {
			tasks = append(tasks, numberedTask(size[0], size[1], number))
		}
	}
	return tasks
}

// manyTasks have others with four rows and four columns beside the small ones.
func manyTasks(r *rand.Rand, more int) [][][]int {
	tasks := append(smallTasks(),
		task("1000", "0100", "0010", "0001"), task("0111", "1011", "1101", "1110"),
		task("1000", "1100", "1110", "1111"), task("0000", "1000", "1100", "1110"),
		task("1111", "1010", "1100", "1001"), task("0111", "1011", "1110", "1100"), evenTask(4, 4, 0), evenTask(4, 4, 1),
	)
	for range more {
		tasks = append(tasks, someTask(r, 4, 4), numberedTask(4, 4, r.Intn(1<<16)))
	}
	return tasks
}

// partOfTask has some of the rows and columns.
func partOfTask(t [][]int, rows, columns []int) [][]int {
	return taskBy(len(rows), len(columns), func(i, j int) int { return t[rows[i]][columns[j]] })
}

func isPlainByHand(t [][]int, rows, columns []int) bool {
	numbers := map[int]bool{}
	for _, i := range rows {
		for _, j := range columns {
			numbers[t[i][j]] = true
		}
	}
	return len(numbers) == 1
}

func isPlainTask(t [][]int) bool {
	return isPlainByHand(t, eventsFrom(0, len(t)), eventsFrom(0, len(t[0])))
}

// placesBy has those of a list that have a number.
func placesBy(list []int, number int) []int {
	var places []int
	for place, n := range list {
		if n == number {
			places = append(places, place)
		}
	}
	return places
}

func copyTalk(p impl.Talk) impl.Talk {
	return impl.Talk{Speaker: slices.Clone(p.Speaker), Says: copyRows(p.Says), Next: slices.Clone(p.Next)}
}

func sameTalk(p, q impl.Talk) bool {
	return slices.Equal(p.Speaker, q.Speaker) && sameRows(p.Says, q.Says) && slices.Equal(p.Next, q.Next)
}

func isZeroTalk(p impl.Talk) bool {
	return len(p.Speaker) == 0 && len(p.Says) == 0 && len(p.Next) == 0
}

func wantTalk(t *testing.T, what string, got impl.Talk, ok bool, want impl.Talk) {
	t.Helper()
	if !ok || !sameTalk(got, want) {
		t.Fatalf("%s = %v, %v; want %v, true", what, got, ok, want)
	}
}

func wantNoTalk(t *testing.T, what string, got impl.Talk, ok bool) {
	t.Helper()
	if ok || !isZeroTalk(got) {
		t.Fatalf("%s = %v, %v; want no Talk, false", what, got, ok)
	}
}

// talkStep is one of a Talk.
type talkStep struct {
	speaker int
	says    []int
	next    [2]int
}

func talkOf(steps ...talkStep) impl.Talk {
	var p impl.Talk
	for _, s := range steps {
		p.Speaker, p.Says, p.Next = append(p.Speaker, s.speaker), append(p.Says, s.says), append(p.Next, s.next)
	}
	return p
}

// chainTalk has so many steps, in each of which the first player says the same bits, and the bit 1 leads on; the last one ends at 1.
func chainTalk(steps int, says ...int) impl.Talk {
	var p impl.Talk
	for step := range steps {
		next := [2]int{-1, step + 1}
		if step == steps-1 {
			next[1] = -2
		}
		p.Speaker, p.Says, p.Next = append(p.Speaker, 0), append(p.Says, slices.Clone(says)), append(p.Next, next)
	}
	return p
}

// someTalk leads on to any steps, mostly near ones, and ends often.
func someTalk(r *rand.Rand, rows, columns, steps int) impl.Talk {
	var p impl.Talk
	for step := range steps {
		speaker := r.Intn(2)
		var next [2]int
		for bit := range next {
			next[bit] = -1 - r.Intn(2)
			if left := steps - step - 1; left > 0 && r.Intn(4) > 0 {
				next[bit] = step + 1 + r.Intn(min(left, []int{2, left}[r.Intn(2)]))
			}
		}
		p.Speaker = append(p.Speaker, speaker)
		p.Says = append(p.Says, someBits(r, []int{rows, columns}[speaker]))
		p.Next = append(p.Next, next)
	}
	return p
}

// runFrom says what follows from a step, or an end, on.
func runFrom(p impl.Talk, step, i, j int) ([]int, int) {
	switch step {
	case -1:
		return nil, 0
	case -2:
		return nil, 1
	}
	bit := p.Says[step][[]int{i, j}[p.Speaker[step]]]
	said, number := runFrom(p, p.Next[step][bit], i, j)
	return append([]int{bit}, said...), number
}

// tableOf has what a Talk ends at for each row and each column, and how many steps are on the longest way.
func tableOf(p impl.Talk, rows, columns int) ([][]int, int) {
	most := 0
	table := taskBy(rows, columns, func(i, j int) int {
		said, number := runFrom(p, 0, i, j)
		most = max(most, len(said))
		return number
	})
	return table, most
}
