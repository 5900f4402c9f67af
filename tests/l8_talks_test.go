package tests

import (
	"fmt"
	"math/rand"
	"slices"
	"testing"

	"loop.example/g01141/impl"
)

func wantRun(t *testing.T, p impl.Talk, rows, columns, i, j int, said []int, number int) {
	t.Helper()
	got, known, ok := impl.RunTalk(p, rows, columns, i, j)
	if !ok || !slices.Equal(got, said) || known != number {
		t.Fatalf("RunTalk(%v, %d, %d, %d, %d) = %v, %v, %v; want %v, %v, true", p, rows, columns, i, j, got, known, ok, said, number)
	}
}

func wantNoRun(t *testing.T, p impl.Talk, rows, columns, i, j int) {
	t.Helper()
	said, number, ok := impl.RunTalk(p, rows, columns, i, j)
	if ok || len(said) != 0 || number != 0 {
		t.Fatalf("RunTalk(%v, %d, %d, %d, %d) = %v, %v, %v; want nothing", p, rows, columns, i, j, said, number, ok)
	}
}

func wantSolved(t *testing.T, p impl.Talk, table [][]int, want bool) {
	t.Helper()
	solves, ok := impl.TalkSolves(p, table)
	wantReport(t, fmt.Sprintf("TalkSolves(%v, %v)", p, table), solves, ok, want)
}

func wantTalkBits(t *testing.T, p impl.Talk, rows, columns, want int) {
	t.Helper()
	bits, ok := impl.TalkBits(p, rows, columns)
	wantNumber(t, fmt.Sprintf("TalkBits(%v, %d, %d)", p, rows, columns), bits, ok, want)
}

// checkTalk compares all that a Talk says with the way from step to step.
func checkTalk(t *testing.T, p impl.Talk, rows, columns int) {
	t.Helper()
	is, ok := impl.IsTalk(p, rows, columns)
	wantReport(t, fmt.Sprintf("IsTalk(%v, %d, %d)", p, rows, columns), is, ok, true)
	table, most := tableOf(p, rows, columns)
	for i := range rows {
		for j := range columns {
			said, number := runFrom(p, 0, i, j)
			wantRun(t, p, rows, columns, i, j, said, number)
			other := copyRows(table)
			other[i][j] = 1 - number
			wantSolved(t, p, other, false)
		}
	}
	wantSolved(t, p, table, true)
	wantTalkBits(t, p, rows, columns, most)
}

func TestTalkByHand(t *testing.T) {
	// The second player tells the column 2, or the others; the first one then tells apart what is left.
	p := talkOf(
		talkStep{1, []int{0, 0, 1}, [2]int{1, 2}},
		talkStep{0, []int{1, 0}, [2]int{-1, -2}},
		talkStep{0, []int{0, 1}, [2]int{-2, 3}},
		talkStep{1, []int{1, 1, 0}, [2]int{-1, -2}},
	)
	table := task("111", "000")
	wantRun(t, p, 2, 3, 0, 0, []int{0, 1}, 1)
	wantRun(t, p, 2, 3, 0, 1, []int{0, 1}, 1)
	wantRun(t, p, 2, 3, 0, 2, []int{1, 0}, 1)
	wantRun(t, p, 2, 3, 1, 0, []int{0, 0}, 0)
	wantRun(t, p, 2, 3, 1, 1, []int{0, 0}, 0)
	wantRun(t, p, 2, 3, 1, 2, []int{1, 1, 0}, 0)
	wantSolved(t, p, table, true)
	wantSolved(t, p, task("110", "000"), false)
	wantTalkBits(t, p, 2, 3, 3)
	checkTalk(t, p, 2, 3)
}

// A step that two others lead to, and one that none does.
func TestTalkWithStepsThatMeet(t *testing.T) {
	p := talkOf(
		talkStep{0, []int{0, 1, 0}, [2]int{1, 3}},
		talkStep{1, []int{0, 1}, [2]int{3, -2}},
		talkStep{0, []int{1, 1, 1}, [2]int{3, 3}},
		talkStep{0, []int{0, 0, 1}, [2]int{-2, -1}},
	)
	wantRun(t, p, 3, 2, 0, 0, []int{0, 0, 0}, 1)
	wantRun(t, p, 3, 2, 0, 1, []int{0, 1}, 1)
	wantRun(t, p, 3, 2, 1, 0, []int{1, 0}, 1)
	wantRun(t, p, 3, 2, 2, 0, []int{0, 0, 1}, 0)
	wantRun(t, p, 3, 2, 2, 1, []int{0, 1}, 1)
	wantSolved(t, p, task("11", "11", "01"), true)
	wantTalkBits(t, p, 3, 2, 3)
	checkTalk(t, p, 3, 2)
}

// No row and no column has a way through the steps 1, 2 and 3.
func TestStepsThatNoWayReaches(t *testing.T) {
	for speaker, size := range []int{2, 3} {
		none := make([]int, size)
		p := talkOf(
			talkStep{speaker, none, [2]int{4, 1}},
			talkStep{0, []int{0, 1}, [2]int{2, 3}},
			talkStep{1, []int{0, 1, 0}, [2]int{3, -1}},
			talkStep{0, []int{1, 0}, [2]int{4, 4}},
			talkStep{speaker, none, [2]int{-2, 5}},
			talkStep{speaker, none, [2]int{-1, -1}},
		)
		wantTalkBits(t, p, 2, 3, 2)
		wantSolved(t, p, evenTask(2, 3, 1), true)
		wantSolved(t, p, evenTask(2, 3, 0), false)
		checkTalk(t, p, 2, 3)
	}
}

func TestTalksOfOneStep(t *testing.T) {
	for _, size := range taskSizes() {
		for speaker, side := range size {
			for _, says := range allLists(side, 2) {
				for _, ends := range allLists(2, 2) {
					p := talkOf(talkStep{speaker, says, [2]int{-1 - ends[0], -1 - ends[1]}})
					checkTalk(t, p, size[0], size[1])
					wantTalkBits(t, p, size[0], size[1], 1)
					wantRun(t, p, size[0], size[1], 0, 0, says[:1], ends[says[0]])
				}
			}
		}
	}
}

func TestTalksOfTheMostSteps(t *testing.T) {
	for steps := 30; steps <= 34; steps++ {
		p := chainTalk(steps, 1, 0, 1)
		is, ok := impl.IsTalk(p, 3, 2)
		wantReport(t, "IsTalk of a chain", is, ok, steps <= 32)
		if steps > 32 {
			wantNoRun(t, p, 3, 2, 0, 0)
			continue
		}
		checkTalk(t, p, 3, 2)
		wantRun(t, p, 3, 2, 0, 1, slices.Repeat([]int{1}, steps), 1)
		wantRun(t, p, 3, 2, 1, 1, []int{0}, 0)
		wantTalkBits(t, p, 3, 2, steps)
		wantSolved(t, p, task("11", "00", "11"), true)
	}
	if impl.MaxSide != 4 {
		t.Errorf("MaxSide is %d", impl.MaxSide)
	}
}

func TestManyTalks(t *testing.T) {
	r := rand.New(rand.NewSource(150))
	for _, size := range taskSizes() {
		for steps := 1; steps <= 32; steps++ {
			for range 6 {
				checkTalk(t, someTalk(r, size[0], size[1], steps), size[0], size[1])
			}
		}
	}
}

// Each of these is a Talk of some other sizes, too, if one player says nothing in it.
func TestTalksOfOtherSizes(t *testing.T) {
	r := rand.New(rand.NewSource(151))
	for _, size := range taskSizes() {
		for range 20 {
			p := someTalk(r, size[0], size[1], 1+r.Intn(4))
			for _, other := range taskSizes() {
				fits := (other[0] == size[0] || !slices.Contains(p.Speaker, 0)) && (other[1] == size[1] || !slices.Contains(p.Speaker, 1))
				if fits {
					checkTalk(t, p, other[0], other[1])
					continue
				}
				is, ok := impl.IsTalk(p, other[0], other[1])
				wantReport(t, fmt.Sprintf("IsTalk(%v, %v)", p, other), is, ok, false)
				wantNoRun(t, p, other[0], other[1], 0, 0)
				bits, ok := impl.TalkBits(p, other[0], other[1])
				wantNoNumber(t, fmt.Sprintf("TalkBits(%v, %v)", p, other), bits, ok)
				for number := range 2 {
					solves, ok := impl.TalkSolves(p, evenTask(other[0], other[1], number))
					wantNoReport(t, fmt.Sprintf("TalkSolves(%v, a task of %v)", p, other), solves, ok)
				}
			}
		}
	}
}

func TestNoRunOfOtherRowsAndColumns(t *testing.T) {
	r := rand.New(rand.NewSource(152))
	for _, size := range taskSizes() {
		p := someTalk(r, size[0], size[1], 1+r.Intn(32))
		for _, n := range append(extremeInts(), -3, -2, -1, 0, 1, 2, 3, 4, 5) {
			if n < 0 || n >= size[0] {
				wantNoRun(t, p, size[0], size[1], n, 0)
				wantNoRun(t, p, size[0], size[1], n, size[1]-1)
			}
			if n < 0 || n >= size[1] {
				wantNoRun(t, p, size[0], size[1], 0, n)
				wantNoRun(t, p, size[0], size[1], size[0]-1, n)
			}
			if n < 0 || n > 3 {
				wantNoRun(t, p, size[0], size[1], n, n)
			}
		}
	}
}
