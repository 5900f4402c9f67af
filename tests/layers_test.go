package tests

import (
	"fmt"
	"math/rand"
	"slices"
	"testing"

	"loop.example/g01141/impl"
)

// layerArguments are those of all functions of one chapter at once: withRoom copies them with room behind each list, memory
// shows all that they hold, that room included, and call calls each function.
type layerArguments[A any] interface {
	withRoom() A
	memory() string
	call() []layerResult
}

// layerResult is what one function returns: numbers, reports and texts as a text, lists and Rows as lists.
type layerResult struct {
	name  string
	plain string
	lists [][]int
	zero  bool
	ok    bool
}

func numberResult(name string, ok bool, numbers ...int) layerResult {
	return layerResult{name, fmt.Sprint(numbers), nil, slices.Max(numbers) == 0 && slices.Min(numbers) == 0, ok}
}

func reportResult(name string, report bool, ok bool) layerResult {
	return layerResult{name, fmt.Sprint(report), nil, !report, ok}
}

func listResult(name string, list []int, ok bool) layerResult {
	return layerResult{name, "", [][]int{list}, len(list) == 0, ok}
}

func rowsResult(name string, rows [][]int, ok bool) layerResult {
	return layerResult{name, "", rows, len(rows) == 0, ok}
}

func boxResult(name string, b impl.Box, ok bool) layerResult {
	return layerResult{name, fmt.Sprint(b.X, b.Y, b.Whole), b.Rows, isZeroBox(b), ok}
}

func sameResult(a, b layerResult) bool {
	return a.name == b.name && a.plain == b.plain && a.ok == b.ok && sameRows(a.lists, b.lists)
}

// withRoom has numbers behind the list, in which something could be written unseen.
func withRoom(list []int) []int {
	if list == nil {
		return nil
	}
	roomy := append(slices.Clone(list), 77, 78, 79, 80, 81)
	return roomy[:len(list)]
}

func rowsWithRoom(rows [][]int) [][]int {
	roomy := make([][]int, len(rows), len(rows)+3)
	for i, row := range rows {
		roomy[i] = withRoom(row)
	}
	return roomy
}

func memoryOfRows(rows [][]int) string {
	return fmt.Sprintln(len(rows)) + memoryOfLists(rows[:cap(rows)]...)
}

func memoryOfLists(lists ...[]int) string {
	s := ""
	for _, list := range lists {
		s += fmt.Sprintln(len(list), list[:cap(list)])
	}
	return s
}

func wildInt(r *rand.Rand) int {
	extremes := extremeInts()
	return []int{r.Intn(5) - 1, r.Intn(4), 1, 2, 3, r.Intn(1200) - 100, int(r.Uint64()), extremes[r.Intn(len(extremes))]}[r.Intn(8)]
}

func wildList(r *rand.Rand) []int {
	list := someBits(r, r.Intn(8))
	if len(list) > 0 && r.Intn(3) == 0 {
		list[r.Intn(len(list))] = wildInt(r)
	}
	return [][]int{list, list, list, nil, {}}[r.Intn(5)]
}

func wildRows(r *rand.Rand, rows [][]int) [][]int {
	rows = copyRows(rows)
	place := r.Intn(len(rows))
	switch r.Intn(6) {
	case 0:
		rows[place][r.Intn(len(rows[place]))] = wildInt(r)
	case 1:
		rows[place] = rows[place][:r.Intn(len(rows[place]))]
	case 2:
		rows[place] = append(rows[place], wildInt(r))
	case 3:
		rows[place] = nil
	case 4:
		rows = rows[:r.Intn(len(rows)+1)]
	case 5:
		rows = append(rows, slices.Clone(rows[place]))
	}
	return rows
}

func wildBox(r *rand.Rand, x, y int) impl.Box {
	b := []impl.Box{someBox(r, x, y), someQuietBox(r, x, y), playBoxByHand(x, y, someBits(r, x+y), 1+r.Intn(3))}[r.Intn(3)]
	switch r.Intn(8) {
	case 0:
		b.Rows = wildRows(r, b.Rows)
	case 1:
		b.X = wildInt(r)
	case 2:
		b.Y = wildInt(r)
	case 3:
		b.Whole = wildInt(r)
	}
	return b
}

// checkTotal calls all functions of a chapter with many arguments, valid and not.
func checkTotal[A layerArguments[A]](t *testing.T, wild func() A) {
	t.Helper()
	valid, failed := map[string]int{}, map[string]int{}
	for range 10000 {
		v := wild().withRoom()
		kept := v.memory()
		first, second := v.call(), v.call()
		if v.memory() != kept {
			t.Fatalf("changed arguments: %s, before: %s", v.memory(), kept)
		}
		for i, result := range first {
			if !sameResult(result, second[i]) {
				t.Fatalf("%s of %v: %v, and then %v", result.name, v, result, second[i])
			}
			if result.ok {
				valid[result.name]++
				continue
			}
			failed[result.name]++
			if !result.zero {
				t.Fatalf("%s of %v fails with %v", result.name, v, result)
			}
		}
	}
	var nothing A
	for _, result := range nothing.call() {
		if valid[result.name] < 100 || failed[result.name] < 100 {
			t.Errorf("%s was valid %d times, and failed %d times", result.name, valid[result.name], failed[result.name])
		}
		if result.ok || !result.zero {
			t.Errorf("%s of nothing: %v", result.name, result)
		}
	}
}

// overwrite writes another number into each list, the room behind it included, and reports whether none of them reaches into another.
func overwrite(lists [][]int) bool {
	apart := true
	for range 2 {
		for i, list := range lists {
			for j := range list[:cap(list)] {
				list[:cap(list)][j] = 5000 + i
			}
		}
		for i, list := range lists {
			for _, n := range list {
				apart = apart && n == 5000+i
			}
		}
		lists = slices.Clone(lists)
		slices.Reverse(lists)
	}
	return apart
}

// checkSharesNothing calls all functions of a chapter with arguments for which none of them fails, but for those named.
func checkSharesNothing[A layerArguments[A]](t *testing.T, arguments A, failing ...string) {
	t.Helper()
	v := arguments.withRoom()
	kept := v.memory()
	expected, first, second := v.call(), v.call(), v.call()
	for i := range first {
		expected[i].lists = copyRows(expected[i].lists)
		if first[i].ok == slices.Contains(failing, first[i].name) {
			t.Errorf("%s of %v: %v", first[i].name, v, first[i].ok)
		}
		if !overwrite(first[i].lists) {
			t.Errorf("two lists of one result of %s share memory", first[i].name)
		}
		if v.memory() != kept {
			t.Fatalf("a result of %s shares memory with an argument", first[i].name)
		}
	}
	for i := range second {
		if !sameResult(second[i], expected[i]) {
			t.Errorf("results of %s, or of another function, share memory", second[i].name)
		}
	}
	for i, result := range v.call() {
		if !sameResult(result, expected[i]) {
			t.Errorf("%s returns something else after a result was changed", result.name)
		}
	}
	checkRoomBehindRows(t, v)
}

// The rows behind those of a result must not be rows of an argument or of another row either.
func checkRoomBehindRows[A layerArguments[A]](t *testing.T, v A) {
	t.Helper()
	kept := v.memory()
	for _, result := range v.call() {
		before := copyRows(result.lists)
		for i := range result.lists {
			_ = append(result.lists[i], 9, 9, 9, 9, 9)
		}
		_ = append(result.lists, []int{9})
		if !sameRows(before, result.lists) || v.memory() != kept {
			t.Errorf("%s: a row reaches into another one", result.name)
		}
	}
}
