package tests

import (
	"fmt"
	"math/rand"
	"slices"
	"testing"

	"loop.example/g01141/impl"
)

func wantNeed(t *testing.T, table [][]int, want int) {
	t.Helper()
	need, ok := impl.NeedOf(table)
	wantNumber(t, fmt.Sprintf("NeedOf(%v)", table), need, ok, want)
}

func wantFirstSplit(t *testing.T, table [][]int, speaker int, list ...int) {
	t.Helper()
	got, says, ok := impl.FirstSplit(table)
	if !ok || got != speaker || !slices.Equal(says, list) {
		t.Fatalf("FirstSplit(%v) = %v, %v, %v; want %v, %v, true", table, got, says, ok, speaker, list)
	}
}

func wantBestTalk(t *testing.T, table [][]int, want impl.Talk) {
	t.Helper()
	p, ok := impl.BestTalk(table)
	wantTalk(t, fmt.Sprintf("BestTalk(%v)", table), p, ok, want)
}

func wantNothingToSay(t *testing.T, table [][]int) {
	t.Helper()
	speaker, says, ok := impl.FirstSplit(table)
	if ok || speaker != 0 || len(says) != 0 {
		t.Fatalf("FirstSplit(%v) = %v, %v, %v; want nothing", table, speaker, says, ok)
	}
	p, ok := impl.BestTalk(table)
	wantNoTalk(t, fmt.Sprintf("BestTalk(%v)", table), p, ok)
}

// checkNeed compares with the need, the first split and the Talk that follow from all that can be said, and looks at the Talk itself.
func checkNeed(t *testing.T, needs taskNeeds, table [][]int) int {
	t.Helper()
	rows, columns, need := len(table), len(table[0]), needs.of(table)
	wantNeed(t, table, need)
	if isPlainTask(table) != (need == 0) {
		t.Fatalf("%v needs %d", table, need)
	}
	if need == 0 {
		wantNothingToSay(t, table)
		return 0
	}
	speaker, says := needs.splitByHand(table)
	wantFirstSplit(t, table, speaker, says...)
	var want impl.Talk
	needs.talkByHand(&want, table, [2][]int{eventsFrom(0, rows), eventsFrom(0, columns)})
	wantBestTalk(t, table, want)
	checkTalk(t, want, rows, columns)
	wantSolved(t, want, table, true)
	wantTalkBits(t, want, rows, columns, need)
	if want.Speaker[0] != speaker || !slices.Equal(want.Says[0], says) {
		t.Fatalf("BestTalk(%v) = %v does not begin with %d, %v", table, want, speaker, says)
	}
	checkStepOrder(t, want)
	return need
}

// checkStepOrder wants that all steps are reached by one way, and in this order: a step, all behind its bit 0, all behind its bit 1.
func checkStepOrder(t *testing.T, p impl.Talk) {
	t.Helper()
	next := 0
	var visit func(step int)
	visit = func(step int) {
		if step < 0 {
			return
		}
		if step != next {
			t.Fatalf("the step %d of %v is not the step %d", step, p, next)
		}
		next++
		visit(p.Next[step][0])
		visit(p.Next[step][1])
	}
	visit(0)
	if next != len(p.Speaker) {
		t.Fatalf("%v has more than the %d steps that are reached", p, next)
	}
}

func TestNeedsByHand(t *testing.T) {
	for _, c := range []struct {
		t    [][]int
		need int
	}{
		{task("0"), 0},
		{task("1"), 0},
		{task("1111"), 0},
		{task("0", "0", "0"), 0},
		{task("01"), 1},
		{task("0110"), 1},
		{task("1", "0", "0", "1"), 1},
		{task("01", "01"), 1},
		{task("00", "11"), 1},
		{task("10", "01"), 2},
		{task("01", "00"), 2},
		{task("0110", "1001", "0110", "1001"), 2},
		{task("0111", "0000", "0111", "0111"), 2},
		{task("100", "010", "001"), 3},
		{task("1000", "1100", "1110", "1111"), 3},
		{task("1000", "0100", "0010", "0001"), 3},
		{task("1100", "1100", "0011", "0011"), 2},
	} {
		wantNeed(t, c.t, c.need)
	}
}

func TestFirstSplitsByHand(t *testing.T) {
	wantFirstSplit(t, task("01"), 1, 0, 1)
	wantFirstSplit(t, task("10"), 1, 0, 1)
	wantFirstSplit(t, task("0110"), 1, 0, 1, 1, 0)
	wantFirstSplit(t, task("1001"), 1, 0, 1, 1, 0)
	wantFirstSplit(t, task("1", "0", "0", "1"), 0, 0, 1, 1, 0)
	wantFirstSplit(t, task("01", "01"), 1, 0, 1)
	wantFirstSplit(t, task("00", "11"), 0, 0, 1)
	// Both players can be the first, and so the first player is, with the equal rows together or not.
	wantFirstSplit(t, task("10", "01"), 0, 0, 1)
	wantFirstSplit(t, task("0110", "1001", "0110", "1001"), 0, 0, 1, 0, 1)
	// Without the last row alone, there are three kinds of rows, which need two bits; without the third one, two kinds, which need one.
	wantFirstSplit(t, task("111", "000", "110", "000"), 0, 0, 0, 1, 0)
	wantFirstSplit(t, task("1000", "0100", "0010", "0001"), 0, 0, 0, 1, 1)
	// The first player leaves too much: three different rows, none of which can be told with the others.
	wantFirstSplit(t, task("10", "01", "11"), 1, 0, 1)
}

func TestBestTalksByHand(t *testing.T) {
	wantBestTalk(t, task("01"), talkOf(talkStep{1, []int{0, 1}, [2]int{-1, -2}}))
	wantBestTalk(t, task("10"), talkOf(talkStep{1, []int{0, 1}, [2]int{-2, -1}}))
	wantBestTalk(t, task("0", "1", "0"), talkOf(talkStep{0, []int{0, 1, 0}, [2]int{-1, -2}}))
	wantBestTalk(t, task("10", "01"), talkOf(
		talkStep{0, []int{0, 1}, [2]int{1, 2}},
		talkStep{1, []int{0, 1}, [2]int{-2, -1}},
		talkStep{1, []int{0, 1}, [2]int{-1, -2}},
	))
	// Only one of both bits of step 0 needs another one.
	wantBestTalk(t, task("00", "01"), talkOf(
		talkStep{0, []int{0, 1}, [2]int{-1, 1}},
		talkStep{1, []int{0, 1}, [2]int{-1, -2}},
	))
	wantBestTalk(t, task("01", "00"), talkOf(
		talkStep{0, []int{0, 1}, [2]int{1, -1}},
		talkStep{1, []int{0, 1}, [2]int{-1, -2}},
	))
	// Behind both bits of step 0, the columns are told, and then the row, where those that are not left have the bit 0.
	wantBestTalk(t, task("1000", "0100", "0010", "0001"), talkOf(
		talkStep{0, []int{0, 0, 1, 1}, [2]int{1, 4}},
		talkStep{0, []int{0, 1, 0, 0}, [2]int{2, 3}},
		talkStep{1, []int{0, 1, 1, 1}, [2]int{-2, -1}},
		talkStep{1, []int{0, 1, 0, 0}, [2]int{-1, -2}},
		talkStep{0, []int{0, 0, 0, 1}, [2]int{5, 6}},
		talkStep{1, []int{0, 0, 1, 0}, [2]int{-1, -2}},
		talkStep{1, []int{0, 0, 0, 1}, [2]int{-1, -2}},
	))
}

func TestNeedsOfManyTasks(t *testing.T) {
	needs, counts := needsBySaying(), map[int]int{}
	for _, table := range manyTasks(rand.New(rand.NewSource(153)), 2000) {
		counts[checkNeed(t, needs, table)]++
	}
	for need := range 4 {
		if counts[need] < 30 || len(counts) > 4 {
			t.Errorf("the needs are %v", counts)
		}
	}
}

// All Talks of so many steps of a size are made, with all that can be said and all that can follow.
func allTalks(rows, columns, steps int) []impl.Talk {
	talks := []impl.Talk{{}}
	for step := range steps {
		var kinds []talkStep
		for speaker, side := range []int{rows, columns} {
			for _, says := range allLists(side, 2) {
				for zero := -2; zero < steps; zero++ {
					for one := -2; one < steps; one++ {
						if (zero < 0 || zero > step) && (one < 0 || one > step) {
							kinds = append(kinds, talkStep{speaker, says, [2]int{zero, one}})
						}
					}
				}
			}
		}
		var longer []impl.Talk
		for _, p := range talks {
			for _, kind := range kinds {
				q := talkOf(kind)
				longer = append(longer, impl.Talk{Speaker: slices.Concat(p.Speaker, q.Speaker), Says: slices.Concat(p.Says, q.Says), Next: slices.Concat(p.Next, q.Next)})
			}
		}
		talks = longer
	}
	return talks
}

// No Talk solves a task with fewer bits than its need, but that of a plain task is 0, and some Talk has as many.
func TestNoTalkHasFewerBitsThanTheNeed(t *testing.T) {
	for _, c := range []struct{ rows, columns, steps int }{{1, 1, 2}, {1, 2, 2}, {2, 1, 2}, {2, 2, 2}, {1, 2, 3}, {2, 2, 3}, {3, 2, 2}, {2, 3, 2}} {
		least := map[int]int{}
		for _, p := range allTalks(c.rows, c.columns, c.steps) {
			bits, ok := impl.TalkBits(p, c.rows, c.columns)
			if !ok {
				t.Fatalf("TalkBits(%v, %d, %d) fails", p, c.rows, c.columns)
			}
			table, most := tableOf(p, c.rows, c.columns)
			number := numberOfTask(table)
			if before, known := least[number]; !known || bits < before {
				least[number] = bits
			}
			if bits != most {
				t.Fatalf("TalkBits(%v, %d, %d) = %d, not %d", p, c.rows, c.columns, bits, most)
			}
		}
		checkLeastBits(t, c.rows, c.columns, c.steps, least)
	}
}

func checkLeastBits(t *testing.T, rows, columns, steps int, least map[int]int) {
	t.Helper()
	for number := range 1 << (rows * columns) {
		table := numberedTask(rows, columns, number)
		need, ok := impl.NeedOf(table)
		bits, solved := least[number]
		if !ok || solved && max(need, 1) != bits {
			t.Errorf("NeedOf(%v) = %d, %v, but a Talk solves it with %d", table, need, ok, bits)
		}
		if !solved && (need <= 1 || steps > 2 && need <= 2) {
			t.Errorf("NeedOf(%v) = %d, but no Talk solves it", table, need)
		}
	}
}

func TestPlainTasksNeedNothing(t *testing.T) {
	for _, size := range taskSizes() {
		for number := range 2 {
			table := evenTask(size[0], size[1], number)
			wantNeed(t, table, 0)
			wantNothingToSay(t, table)
		}
	}
}

// With one row, or one column, one bit tells everything.
func TestTasksOfOneRowOrColumn(t *testing.T) {
	for side := 1; side <= 4; side++ {
		for number := range 1 << side {
			row, column := numberedTask(1, side, number), numberedTask(side, 1, number)
			if isPlainTask(row) {
				wantNeed(t, row, 0)
				wantNeed(t, column, 0)
				continue
			}
			// The first list of both, that with the bit 0 first.
			list := slices.Clone(row[0])
			for i := range list {
				list[i] ^= row[0][0]
			}
			next := [2]int{-1 - row[0][0], -2 + row[0][0]}
			wantNeed(t, row, 1)
			wantFirstSplit(t, row, 1, list...)
			wantBestTalk(t, row, talkOf(talkStep{1, list, next}))
			wantNeed(t, column, 1)
			wantFirstSplit(t, column, 0, list...)
			wantBestTalk(t, column, talkOf(talkStep{0, list, next}))
		}
	}
}

// Rows and columns that are there several times cost nothing, and neither do other orders or the other numbers.
func TestNeedsOfEqualRowsAndColumns(t *testing.T) {
	r := rand.New(rand.NewSource(154))
	for range 300 {
		base := someTask(r, 1+r.Intn(4), 1+r.Intn(4))
		need, ok := impl.NeedOf(base)
		if !ok {
			t.Fatalf("NeedOf(%v) fails", base)
		}
		rows := append(r.Perm(len(base)), someQuestions(r, len(base))...)[:min(4, len(base)+r.Intn(2))]
		columns := append(r.Perm(len(base[0])), someQuestions(r, len(base[0]))...)[:min(4, len(base[0])+r.Intn(2))]
		wantNeed(t, partOfTask(base, rows, columns), need)
		wantNeed(t, taskBy(len(base), len(base[0]), func(i, j int) int { return 1 - base[i][j] }), need)
	}
}

// The need is at most 1 more than the bits that tell the different rows apart, or the columns.
func TestNeedIsBoundedByDifferentRows(t *testing.T) {
	r := rand.New(rand.NewSource(155))
	reached := 0
	for _, table := range manyTasks(r, 1000) {
		need, first := impl.NeedOf(table)
		turned, second := impl.TurnTask(table)
		count, third := impl.CountRows(table)
		other, fourth := impl.CountRows(turned)
		bits := 0
		for 1<<bits < min(count, other) {
			bits++
		}
		if !first || !second || !third || !fourth || need > bits+1 {
			t.Fatalf("NeedOf(%v) = %d, with %d rows and %d columns", table, need, count, other)
		}
		if need == bits+1 {
			reached++
		}
	}
	if reached < 100 {
		t.Errorf("the bound is reached %d times", reached)
	}
}
