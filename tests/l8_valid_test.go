package tests

import (
	"fmt"
	"math/rand"
	"slices"
	"testing"

	"loop.example/g01141/impl"
)

// flawedTask is none. A good one of the same size, where there is one, stands beside it.
type flawedTask struct {
	bad, good [][]int
}

func flawedTasks() []flawedTask {
	one := task("10", "01")
	flawed := []flawedTask{
		{nil, one}, {[][]int{}, one}, {[][]int{nil}, one}, {[][]int{{}}, one}, {[][]int{{}, {}}, one}, {make([][]int, 4), one}, {make([][]int, 5), one},
		{make([][]int, 100), one}, {[][]int{make([]int, 100)}, one},
	}
	for rows := 1; rows <= 6; rows++ {
		for columns := 1; columns <= 6; columns++ {
			if rows > 4 || columns > 4 {
				good := mixedTask(min(rows, 4), min(columns, 4))
				flawed = append(flawed, flawedTask{mixedTask(rows, columns), good}, flawedTask{evenTask(rows, columns, 1), good})
				continue
			}
			for _, bad := range flawedTaskRows(mixedTask(rows, columns)) {
				flawed = append(flawed, flawedTask{bad, mixedTask(rows, columns)})
			}
		}
	}
	return flawed
}

// mixedTask has both numbers, if it has more than one place.
func mixedTask(rows, columns int) [][]int {
	return taskBy(rows, columns, func(i, j int) int { return (i + j) % 2 })
}

// Each row is of another length in turn, and each number another one.
func flawedTaskRows(good [][]int) [][][]int {
	var flawed [][][]int
	for i, row := range good {
		rows := [][]int{nil, {}, append(slices.Clone(row), 1), append(slices.Clone(row), row...)}
		rows = append(rows, row[:len(row)-1])
		for j := range row {
			for _, n := range append(extremeInts(), -2, -1, 2, 3) {
				other := slices.Clone(row)
				other[j] = n
				rows = append(rows, other)
			}
		}
		for _, other := range rows {
			bad := copyRows(good)
			bad[i] = other
			if len(good) == 1 && len(other) > 0 && len(other) <= 4 && slices.Max(other) <= 1 && slices.Min(other) >= 0 {
				continue
			}
			flawed = append(flawed, bad)
		}
	}
	return flawed
}

func TestFlawedTasksAreNone(t *testing.T) {
	for _, f := range flawedTasks() {
		if impl.IsTask(f.bad) {
			t.Fatalf("IsTask(%v)", f.bad)
		}
		if !impl.IsTask(f.good) {
			t.Fatalf("not IsTask(%v)", f.good)
		}
	}
}

func TestTasksOfEachSize(t *testing.T) {
	for _, size := range taskSizes() {
		for number := 0; number < 1<<(size[0]*size[1]); number += 1 + number/500 {
			if table := numberedTask(size[0], size[1], number); !impl.IsTask(table) {
				t.Fatalf("not IsTask(%v)", table)
			}
		}
	}
}

// ofTask calls a function for a task that may not be valid, beside other arguments that fit a good one, and tells whether it was
// successful and whether all other results were zero.
type ofTask func(bad, good [][]int) (ok bool, zero bool)

func callsOfTasks() map[string]ofTask {
	return map[string]ofTask{
		"IsTask": func(bad, _ [][]int) (bool, bool) { return impl.IsTask(bad), true },
		"NeedOf": func(bad, _ [][]int) (bool, bool) { n, ok := impl.NeedOf(bad); return ok, n == 0 },
		"FirstSplit": func(bad, _ [][]int) (bool, bool) {
			n, list, ok := impl.FirstSplit(bad)
			return ok, n == 0 && len(list) == 0
		},
		"BestTalk": func(bad, _ [][]int) (bool, bool) { p, ok := impl.BestTalk(bad); return ok, isZeroTalk(p) },
		"TalkSolves": func(bad, good [][]int) (bool, bool) {
			is, ok := impl.TalkSolves(talkOf(talkStep{0, make([]int, len(good)), [2]int{-1, -1}}), bad)
			return ok, !is
		},
		"TalkSolves, by columns": func(bad, good [][]int) (bool, bool) {
			is, ok := impl.TalkSolves(talkOf(talkStep{1, make([]int, len(good[0])), [2]int{-1, -1}}), bad)
			return ok, !is
		},
		"IsPlain": func(bad, _ [][]int) (bool, bool) { is, ok := impl.IsPlain(bad, []int{0}, []int{0}); return ok, !is },
		"IsPlain, of all": func(bad, good [][]int) (bool, bool) {
			is, ok := impl.IsPlain(bad, eventsFrom(0, len(good)), eventsFrom(0, len(good[0])))
			return ok, !is
		},
		"FoolingSet, 0":  func(bad, _ [][]int) (bool, bool) { pairs, ok := impl.FoolingSet(bad, 0); return ok, len(pairs) == 0 },
		"FoolingSet, 1":  func(bad, _ [][]int) (bool, bool) { pairs, ok := impl.FoolingSet(bad, 1); return ok, len(pairs) == 0 },
		"CoverNumber, 0": func(bad, _ [][]int) (bool, bool) { n, ok := impl.CoverNumber(bad, 0); return ok, n == 0 },
		"CoverNumber, 1": func(bad, _ [][]int) (bool, bool) { n, ok := impl.CoverNumber(bad, 1); return ok, n == 0 },
		"RanksOf":        func(bad, _ [][]int) (bool, bool) { n, m, ok := impl.RanksOf(bad); return ok, n == 0 && m == 0 },
		"CountRows":      func(bad, _ [][]int) (bool, bool) { n, ok := impl.CountRows(bad); return ok, n == 0 },
		"TurnTask":       func(bad, _ [][]int) (bool, bool) { turned, ok := impl.TurnTask(bad); return ok, len(turned) == 0 },
	}
}

func TestNoFunctionTakesAFlawedTask(t *testing.T) {
	for name, call := range callsOfTasks() {
		for _, f := range flawedTasks() {
			if ok, zero := call(f.bad, f.good); ok || !zero {
				t.Fatalf("%s of %v: %v, zero results %v", name, f.bad, ok, zero)
			}
			if len(f.good)*len(f.good[0]) == 1 {
				continue
			}
			if ok, _ := call(f.good, f.good); !ok {
				t.Fatalf("%s of %v fails", name, f.good)
			}
		}
	}
}

// flawedTalks are none of a size, of which the good one is. Most have just one flaw, some in a step that no way reaches.
func flawedTalks(r *rand.Rand, good impl.Talk) []impl.Talk {
	last := len(good.Speaker) - 1
	changes := []func(p *impl.Talk){
		func(p *impl.Talk) { p.Speaker = nil },
		func(p *impl.Talk) { p.Says = nil },
		func(p *impl.Talk) { p.Next = nil },
		func(p *impl.Talk) { *p = impl.Talk{} },
		func(p *impl.Talk) { *p = impl.Talk{Speaker: []int{}, Says: [][]int{}, Next: [][2]int{}} },
		func(p *impl.Talk) { p.Speaker = p.Speaker[:last] },
		func(p *impl.Talk) { p.Says = p.Says[:last] },
		func(p *impl.Talk) { p.Next = p.Next[:last] },
		func(p *impl.Talk) { p.Speaker = append(p.Speaker, 0) },
		func(p *impl.Talk) { p.Says = append(p.Says, slices.Clone(p.Says[0])) },
		func(p *impl.Talk) { p.Next = append(p.Next, [2]int{-1, -2}) },
	}
	flawed := flawedNumbersOfSteps(good)
	for _, change := range changes {
		p := copyTalk(good)
		change(&p)
		flawed = append(flawed, p)
	}
	for step := range good.Speaker {
		flawed = append(flawed, flawedStep(r, good, step)...)
	}
	return flawed
}

// flawedNumbersOfSteps have as many steps as the limit, and then one or more too many.
func flawedNumbersOfSteps(good impl.Talk) []impl.Talk {
	var flawed []impl.Talk
	for _, steps := range []int{33, 34, 64, 100} {
		p := impl.Talk{}
		for range steps {
			p.Speaker, p.Says, p.Next = append(p.Speaker, good.Speaker[0]), append(p.Says, slices.Clone(good.Says[0])), append(p.Next, [2]int{-1, -2})
		}
		flawed = append(flawed, p)
	}
	return flawed
}

func flawedStep(r *rand.Rand, good impl.Talk, step int) []impl.Talk {
	var flawed []impl.Talk
	for _, n := range append(extremeInts(), -2, -1, 2, 3) {
		p, q := copyTalk(good), copyTalk(good)
		p.Speaker[step] = n
		q.Says[step][r.Intn(len(q.Says[step]))] = n
		flawed = append(flawed, p, q)
	}
	for _, n := range append(extremeInts(), -4, -3, 0, step-1, step, len(good.Speaker), len(good.Speaker)+1, 32, 33) {
		// A step ahead of the first one is the end at 0.
		if n == -1 || n > step && n < len(good.Speaker) {
			continue
		}
		for bit := range 2 {
			p := copyTalk(good)
			p.Next[step][bit] = n
			flawed = append(flawed, p)
		}
	}
	says := good.Says[step]
	for _, list := range [][]int{nil, {}, says[:len(says)-1], append(slices.Clone(says), 0), append(slices.Clone(says), says...), make([]int, 100)} {
		p := copyTalk(good)
		p.Says[step] = list
		flawed = append(flawed, p)
	}
	return flawed
}

func wantTalkOfSize(t *testing.T, p impl.Talk, rows, columns int, want bool) {
	t.Helper()
	is, ok := impl.IsTalk(p, rows, columns)
	wantReport(t, fmt.Sprintf("IsTalk(%v, %d, %d)", p, rows, columns), is, ok, want)
}

func wantNoUse(t *testing.T, p impl.Talk, rows, columns int) {
	t.Helper()
	wantNoRun(t, p, rows, columns, 0, 0)
	bits, ok := impl.TalkBits(p, rows, columns)
	wantNoNumber(t, fmt.Sprintf("TalkBits(%v, %d, %d)", p, rows, columns), bits, ok)
}

func TestFlawedTalksAreNone(t *testing.T) {
	r := rand.New(rand.NewSource(165))
	for _, size := range taskSizes() {
		for _, steps := range []int{1, 3, 32} {
			good := someTalk(r, size[0], size[1], steps)
			wantTalkOfSize(t, good, size[0], size[1], true)
			for _, p := range flawedTalks(r, good) {
				wantTalkOfSize(t, p, size[0], size[1], false)
				wantNoUse(t, p, size[0], size[1])
				solves, ok := impl.TalkSolves(p, evenTask(size[0], size[1], 1))
				wantNoReport(t, fmt.Sprintf("TalkSolves(%v, a task of %v)", p, size), solves, ok)
			}
		}
	}
}

// No Talk, good or not, is of a size that no task has, whatever the lists say.
func TestNoTalkIsOfAnotherSize(t *testing.T) {
	for _, size := range badSides() {
		for _, says := range [][]int{nil, {}, {0}, {0, 1}, {0, 1, 0, 1}, make([]int, 5), make([]int, 16)} {
			for speaker := range 2 {
				p := talkOf(talkStep{speaker, says, [2]int{-1, -2}})
				is, ok := impl.IsTalk(p, size[0], size[1])
				wantNoReport(t, fmt.Sprintf("IsTalk(%v, %v)", p, size), is, ok)
				wantNoUse(t, p, size[0], size[1])
			}
		}
		is, ok := impl.IsTalk(impl.Talk{}, size[0], size[1])
		wantNoReport(t, fmt.Sprintf("IsTalk of nothing, %v", size), is, ok)
	}
}

func TestNoTalkWithoutSteps(t *testing.T) {
	for _, size := range taskSizes() {
		for _, p := range []impl.Talk{{}, {Speaker: []int{}}, {Says: [][]int{{0, 0}}}, {Next: [][2]int{{-1, -2}}}} {
			wantTalkOfSize(t, p, size[0], size[1], false)
			wantNoUse(t, p, size[0], size[1])
		}
	}
}

// Each next step is tried, at each step.
func TestEachNextStep(t *testing.T) {
	for steps := 1; steps <= 4; steps++ {
		for step := range steps {
			for next := -4; next <= steps+2; next++ {
				for bit := range 2 {
					p := chainTalk(steps, 0, 1)
					p.Next[step][bit] = next
					wantTalkOfSize(t, p, 2, 2, next == -1 || next == -2 || next > step && next < steps)
				}
			}
		}
	}
}

func TestTalkValueTakesNoFlawedGame(t *testing.T) {
	for _, f := range flawedGames() {
		value, ok := impl.TalkValue(f.bad)
		wantNoNumber(t, fmt.Sprintf("TalkValue(%v)", f.bad), value, ok)
		if _, ok := impl.TalkValue(f.good); !ok {
			t.Fatalf("TalkValue(%v) fails", f.good)
		}
	}
}
