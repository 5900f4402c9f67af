package tests

import (
	"fmt"
	"math/rand"
	"slices"
	"testing"

	"loop.example/g01141/impl"
)

func wantKept(t *testing.T, s impl.Scene, assignment []int, want ...int) {
	t.Helper()
	if kept, ok := impl.KeptBy(s, assignment); !ok || !slices.Equal(kept, want) {
		t.Fatalf("KeptBy(%v, %v) = %v, %v; want %v, true", s, assignment, kept, ok, want)
	}
}

func wantSolves(t *testing.T, s impl.Scene, assignment []int, want bool) {
	t.Helper()
	if is, ok := impl.SolvesScene(s, assignment); !ok || is != want {
		t.Fatalf("SolvesScene(%v, %v) = %v, %v; want %v, true", s, assignment, is, ok, want)
	}
}

func wantFirstSolution(t *testing.T, s impl.Scene, want ...int) {
	t.Helper()
	first, ok := impl.FirstSolution(s)
	wantList(t, fmt.Sprintf("FirstSolution(%v)", s), first, ok, want...)
}

func wantNoSolution(t *testing.T, s impl.Scene) {
	t.Helper()
	first, ok := impl.FirstSolution(s)
	wantNoList(t, fmt.Sprintf("FirstSolution(%v)", s), first, ok)
	wantCount(t, s, 0)
}

func wantCount(t *testing.T, s impl.Scene, want int) {
	t.Helper()
	count, ok := impl.CountSolutions(s)
	wantNumber(t, fmt.Sprintf("CountSolutions(%v)", s), count, ok, want)
}

func wantRank(t *testing.T, s impl.Scene, want int) {
	t.Helper()
	rank, ok := impl.RankOfScene(s)
	wantNumber(t, fmt.Sprintf("RankOfScene(%v)", s), rank, ok, want)
}

// checkSolutions compares all about solutions with all assignments, and reports whether there is a solution.
func checkSolutions(t *testing.T, s impl.Scene) bool {
	t.Helper()
	var solutions [][]int
	for _, assignment := range allLists(s.Events, 2) {
		wantKept(t, s, assignment, keptByHand(s, assignment)...)
		solves := solvesByHand(s, assignment)
		wantSolves(t, s, assignment, solves)
		if solves {
			solutions = append(solutions, assignment)
		}
	}
	rank := rankByHand(s)
	wantRank(t, s, rank)
	if len(solutions) == 0 {
		wantNoSolution(t, s)
		return false
	}
	if len(solutions) != 1<<(s.Events-rank) {
		t.Fatalf("%v has %d solutions, and the rank %d", s, len(solutions), rank)
	}
	wantFirstSolution(t, s, solutions[0]...)
	wantCount(t, s, len(solutions))
	return true
}

func TestKeptByHand(t *testing.T) {
	s := scene(4, []int{1, 0, 1, 0}, []int{0, 1}, []int{1, 2, 3}, []int{3}, []int{0, 3})
	for _, c := range []struct{ assignment, kept []int }{
		{[]int{0, 0, 0, 0}, []int{1, 3}},
		{[]int{1, 0, 0, 0}, []int{0, 1}},
		{[]int{0, 1, 0, 0}, []int{0, 3}},
		{[]int{0, 0, 1, 0}, []int{3}},
		{[]int{0, 0, 0, 1}, []int{2}},
		{[]int{1, 1, 1, 1}, []int{2, 3}},
		{[]int{1, 0, 1, 1}, []int{0, 1, 2, 3}},
		{[]int{1, 1, 0, 1}, []int{1, 2, 3}},
	} {
		wantKept(t, s, c.assignment, c.kept...)
		wantSolves(t, s, c.assignment, len(c.kept) == 4)
	}
	wantFirstSolution(t, s, 1, 0, 1, 1)
	wantCount(t, s, 1)
	wantRank(t, s, 4)
}

func TestSolutionsByHand(t *testing.T) {
	for _, c := range []struct {
		s     impl.Scene
		first []int
		count int
	}{
		{scene(3, []int{1}, []int{0, 1, 2}), []int{0, 0, 1}, 4},
		{scene(3, []int{1}, []int{0, 1}), []int{0, 1, 0}, 4},
		{scene(3, []int{1}, []int{0}), []int{1, 0, 0}, 4},
		{scene(3, []int{1, 1}, []int{0, 1}, []int{1, 2}), []int{0, 1, 0}, 2},
		{scene(3, []int{1, 0, 1}, []int{0, 1}, []int{1, 2}, []int{2}), []int{0, 1, 1}, 1},
		{scene(3, []int{1, 0, 1}, []int{0, 1}, []int{1, 2}, []int{0, 2}), []int{0, 1, 1}, 2},
		{scene(4, []int{0, 1}, []int{0, 1}, []int{0, 3}), []int{0, 0, 0, 1}, 4},
		{scene(4, []int{1, 1}, []int{0, 1, 2, 3}, []int{0}), []int{1, 0, 0, 0}, 4},
		{scene(2, []int{1, 1, 0}, []int{0}, []int{1}, []int{0, 1}), []int{1, 1}, 1},
	} {
		wantFirstSolution(t, c.s, c.first...)
		wantCount(t, c.s, c.count)
	}
	for _, s := range []impl.Scene{
		scene(1, []int{0, 1}, []int{0}, []int{0}),
		scene(3, []int{1, 1, 1}, []int{0, 1}, []int{1, 2}, []int{0, 2}),
		scene(2, []int{1, 1, 1}, []int{0}, []int{1}, []int{0, 1}),
	} {
		wantNoSolution(t, s)
	}
}

// A Scene without contexts is solved by all assignments, one without events by the empty one alone.
func TestSolutionsOfNothing(t *testing.T) {
	for events := range impl.MaxEvents + 1 {
		s := impl.Scene{Events: events}
		wantFirstSolution(t, s, make([]int, events)...)
		wantCount(t, s, 1<<events)
		wantRank(t, s, 0)
		for _, assignment := range allLists(min(events, 3), 2) {
			assignment = append(assignment, make([]int, events-len(assignment))...)
			wantKept(t, s, assignment)
			wantSolves(t, s, assignment, true)
		}
	}
	for _, assignment := range [][]int{nil, {}} {
		wantKept(t, impl.Scene{}, assignment)
		wantSolves(t, impl.Scene{}, assignment, true)
	}
}

func TestSolutionsOfAllSmallScenes(t *testing.T) {
	checkBothKinds(t, smallScenes(), checkSolutions)
}

func TestSolutionsOfManyScenes(t *testing.T) {
	checkBothKinds(t, manyScenes(rand.New(rand.NewSource(122)), 20), checkSolutions)
}

// checkOneAfterAnother goes over all assignments by the functions alone.
func checkOneAfterAnother(t *testing.T, s impl.Scene) {
	t.Helper()
	first, solved := impl.FirstSolution(s)
	count, ok := impl.CountSolutions(s)
	rank, fine := impl.RankOfScene(s)
	if !ok || !fine || solved != (count > 0) || solved && count != 1<<(s.Events-rank) {
		t.Fatalf("%v has FirstSolution %v, %v, CountSolutions %d, %v and RankOfScene %d, %v", s, first, solved, count, ok, rank, fine)
	}
	for _, assignment := range allLists(s.Events, 2) {
		is, ok := impl.SolvesScene(s, assignment)
		kept, fine := impl.KeptBy(s, assignment)
		if !ok || !fine || is != (len(kept) == len(s.Contexts)) || !areAscendingPlaces(kept, len(s.Contexts)) {
			t.Fatalf("SolvesScene(%v, %v) = %v, %v; KeptBy = %v, %v", s, assignment, is, ok, kept, fine)
		}
		if is && count == 1<<(s.Events-rank) && !slices.Equal(assignment, first) {
			t.Fatalf("%v solves %v before %v", assignment, s, first)
		}
		if is {
			count--
		}
	}
	if count != 0 {
		t.Fatalf("CountSolutions(%v) is greater by %d than the number of solutions", s, count)
	}
}

func areAscendingPlaces(list []int, size int) bool {
	for i, place := range list {
		if place < 0 || place >= size || i > 0 && place <= list[i-1] {
			return false
		}
	}
	return true
}

func TestCountSolutionsIsTheNumberOfSolutions(t *testing.T) {
	r := rand.New(rand.NewSource(123))
	for range 150 {
		checkOneAfterAnother(t, someScene(r, r.Intn(impl.MaxEvents), r.Intn(impl.MaxContexts+1)))
	}
	for range 5 {
		checkOneAfterAnother(t, someScene(r, impl.MaxEvents, impl.MaxContexts))
	}
}

// Contexts of one event each tell the whole assignment, where each event has one.
func TestContextsOfOneEvent(t *testing.T) {
	r := rand.New(rand.NewSource(124))
	for events := 1; events <= impl.MaxContexts; events++ {
		for range 10 {
			assignment := someBits(r, events)
			s := impl.Scene{Events: events}
			for _, event := range r.Perm(events) {
				s.Contexts, s.Sums = append(s.Contexts, []int{event}), append(s.Sums, assignment[event])
			}
			wantFirstSolution(t, s, assignment...)
			wantCount(t, s, 1)
			wantRank(t, s, events)
			for event := range events {
				other := slices.Clone(assignment)
				other[event] ^= 1
				place := slices.IndexFunc(s.Contexts, func(context []int) bool { return context[0] == event })
				wantKept(t, s, other, slices.Delete(eventsFrom(0, events), place, place+1)...)
			}
		}
	}
	for events := 1; events <= impl.MaxEvents; events++ {
		for event := range events {
			for sum := range 2 {
				want := make([]int, events)
				want[event] = sum
				s := scene(events, []int{sum}, []int{event})
				wantFirstSolution(t, s, want...)
				wantCount(t, s, 1<<(events-1))
				wantRank(t, s, 1)
			}
		}
	}
}

func TestContextsOfAllEvents(t *testing.T) {
	for events := 1; events <= impl.MaxEvents; events++ {
		for contexts := 1; contexts <= impl.MaxContexts; contexts++ {
			s := fullScene(events, contexts)
			wantFirstSolution(t, s, make([]int, events)...)
			wantCount(t, s, 1<<(events-1))
			wantRank(t, s, 1)
			s.Sums = slices.Repeat([]int{1}, contexts)
			first := make([]int, events)
			first[events-1] = 1
			wantFirstSolution(t, s, first...)
			wantCount(t, s, 1<<(events-1))
			if contexts > 1 {
				s.Sums[contexts-1] = 0
				wantNoSolution(t, s)
				wantRank(t, s, 1)
			}
		}
	}
}

// The second one changes nothing with the same sum, and leaves no solution with the other one.
func TestTheSameContextTwice(t *testing.T) {
	r := rand.New(rand.NewSource(125))
	for range 200 {
		events, contexts := 1+r.Intn(8), 1+r.Intn(impl.MaxContexts-1)
		s := someScene(r, events, contexts)
		count, _ := impl.CountSolutions(s)
		rank, _ := impl.RankOfScene(s)
		place, at := r.Intn(contexts), r.Intn(contexts+1)
		twice, other := copyScene(s), copyScene(s)
		twice.Contexts = slices.Insert(twice.Contexts, at, s.Contexts[place])
		twice.Sums = slices.Insert(twice.Sums, at, s.Sums[place])
		other.Contexts = slices.Insert(other.Contexts, at, s.Contexts[place])
		other.Sums = slices.Insert(other.Sums, at, 1-s.Sums[place])
		wantCount(t, twice, count)
		wantRank(t, twice, rank)
		wantNoSolution(t, other)
		wantRank(t, other, rank)
		if first, ok := impl.FirstSolution(s); ok {
			wantFirstSolution(t, twice, first...)
		}
	}
}

// The rank is at most the number of contexts, and at most that of events.
func TestRanks(t *testing.T) {
	wantRank(t, impl.Scene{}, 0)
	for events := 1; events <= impl.MaxEvents; events++ {
		chain := impl.Scene{Events: events}
		for size := range min(events, impl.MaxContexts) {
			chain.Contexts, chain.Sums = append(chain.Contexts, eventsFrom(0, size+1)), append(chain.Sums, size%2)
			wantRank(t, chain, size+1)
		}
		slices.Reverse(chain.Contexts)
		wantRank(t, chain, len(chain.Contexts))
		// No more of them make the rank greater than the number of events.
		for event := 0; len(chain.Contexts) < impl.MaxContexts; event = (event + 1) % events {
			chain.Contexts, chain.Sums = append(chain.Contexts, []int{event}), append(chain.Sums, 1)
			wantRank(t, chain, events)
		}
	}
	for _, c := range []struct {
		s    impl.Scene
		rank int
	}{
		{scene(3, []int{0, 0, 0}, []int{0, 1}, []int{1, 2}, []int{0, 2}), 2},
		{scene(3, []int{0, 0, 1}, []int{0, 1}, []int{1, 2}, []int{0, 2}), 2},
		{scene(4, []int{0, 0, 0, 0}, []int{0, 1}, []int{1, 2}, []int{2, 3}, []int{0, 3}), 3},
		{scene(4, []int{0, 0, 0, 0}, []int{0, 1}, []int{2, 3}, []int{0, 2}, []int{0, 1, 2, 3}), 3},
		{scene(2, []int{0, 0, 0}, []int{0, 1}, []int{0}, []int{1}), 2},
		{scene(12, []int{0, 0}, []int{0, 11}, []int{11}), 2},
		{impl.SquareScene(), 5},
		{impl.StarScene(), 4},
	} {
		wantRank(t, c.s, c.rank)
	}
}

// The order of contexts, the sums and the names of events change no rank.
func TestRanksOfTurnedScenes(t *testing.T) {
	r := rand.New(rand.NewSource(126))
	for range 500 {
		events, contexts := 1+r.Intn(impl.MaxEvents), r.Intn(impl.MaxContexts+1)
		s := someScene(r, events, contexts)
		rank, ok := impl.RankOfScene(s)
		if !ok || rank > min(events, contexts) || contexts > 0 && rank == 0 {
			t.Fatalf("RankOfScene(%v) = %d, %v", s, rank, ok)
		}
		names, places := r.Perm(events), r.Perm(contexts)
		turned := impl.Scene{Events: events, Sums: someBits(r, contexts)}
		for _, place := range places {
			var context []int
			for _, event := range s.Contexts[place] {
				context = append(context, names[event])
			}
			slices.Sort(context)
			turned.Contexts = append(turned.Contexts, context)
		}
		wantRank(t, turned, rank)
	}
}

func TestOtherListsAreNoAssignments(t *testing.T) {
	for events := range impl.MaxEvents + 1 {
		for _, s := range []impl.Scene{{Events: events}, fullScene(events, min(events, 2))} {
			for _, list := range badBits(events) {
				kept, ok := impl.KeptBy(s, list)
				wantNoList(t, fmt.Sprintf("KeptBy(%v, %v)", s, list), kept, ok)
				wantSolves(t, s, list, false)
			}
		}
	}
	// Numbers are not taken for what is left of them by 2, and none beyond the events is looked at.
	s := scene(2, []int{1}, []int{0, 1})
	for _, list := range [][]int{{0, 3}, {2, 1}, {-1, 0}, {-1, 2}, {0, 1, 0}, {1}, nil} {
		kept, ok := impl.KeptBy(s, list)
		wantNoList(t, fmt.Sprintf("KeptBy(%v, %v)", s, list), kept, ok)
		wantSolves(t, s, list, false)
	}
}
