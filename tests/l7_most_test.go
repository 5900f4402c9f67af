package tests

import (
	"fmt"
	"math/rand"
	"slices"
	"testing"

	"loop.example/g01141/impl"
)

func wantMost(t *testing.T, s impl.Scene, want int, first ...int) {
	t.Helper()
	most, assignment, ok := impl.MostKept(s)
	wantPlay(t, fmt.Sprintf("MostKept(%v)", s), assignment, most, ok, first, want)
}

// checkMost compares MostKept with all assignments, and reports whether it is less than the number of contexts.
func checkMost(t *testing.T, s impl.Scene) bool {
	t.Helper()
	most := -1
	var first []int
	for _, assignment := range allLists(s.Events, 2) {
		if kept := len(keptByHand(s, assignment)); kept > most {
			most, first = kept, assignment
		}
	}
	wantMost(t, s, most, first...)
	kept, ok := impl.KeptBy(s, first)
	solution, solved := impl.FirstSolution(s)
	if !ok || len(kept) != most || 2*most < len(s.Contexts) || solved != (most == len(s.Contexts)) {
		t.Fatalf("MostKept(%v) = %d, %v; KeptBy = %v, %v; FirstSolution = %v, %v", s, most, first, kept, ok, solution, solved)
	}
	if solved && !slices.Equal(solution, first) {
		t.Fatalf("MostKept(%v) has %v, and FirstSolution %v", s, first, solution)
	}
	return !solved
}

func TestMostKeptByHand(t *testing.T) {
	wantMost(t, scene(1, []int{0, 1}, []int{0}, []int{0}), 1, 0)
	wantMost(t, scene(1, []int{1, 0, 1}, []int{0}, []int{0}, []int{0}), 2, 1)
	wantMost(t, scene(3, []int{1, 1, 1}, []int{0, 1}, []int{1, 2}, []int{0, 2}), 2, 0, 0, 1)
	wantMost(t, scene(3, []int{1, 1, 0}, []int{0, 1}, []int{1, 2}, []int{0, 2}), 3, 0, 1, 0)
	wantMost(t, scene(2, []int{1, 1, 1}, []int{0}, []int{1}, []int{0, 1}), 2, 0, 1)
	wantMost(t, scene(2, []int{1, 1, 0, 0, 0}, []int{0}, []int{0}, []int{1}, []int{0}, []int{0, 1}), 3, 0, 0)
	wantMost(t, scene(2, []int{1, 1, 1, 0, 1}, []int{0}, []int{0}, []int{1}, []int{0}, []int{0, 1}), 3, 0, 1)
	wantMost(t, scene(2, []int{1, 1, 1, 0, 0}, []int{0}, []int{0}, []int{1}, []int{0}, []int{0, 1}), 4, 1, 1)
}

func TestMostKeptOfAllSmallScenes(t *testing.T) {
	checkBothKinds(t, append(smallScenes(), allScenes(2, 4)...), checkMost)
}

func TestMostKeptOfManyScenes(t *testing.T) {
	checkBothKinds(t, manyScenes(rand.New(rand.NewSource(128)), 20), checkMost)
}

func TestMostKeptOfNothing(t *testing.T) {
	for events := range impl.MaxEvents + 1 {
		wantMost(t, impl.Scene{Events: events}, 0, make([]int, events)...)
	}
}

// Half of the contexts is the least there can be: each of them is there with both sums.
func TestHalfOfTheContexts(t *testing.T) {
	r := rand.New(rand.NewSource(129))
	for events := 1; events <= impl.MaxEvents; events++ {
		for pairs := 1; 2*pairs <= impl.MaxContexts; pairs++ {
			s := impl.Scene{Events: events}
			for range pairs {
				context := someContext(r, events)
				s.Contexts, s.Sums = append(s.Contexts, context, slices.Clone(context)), append(s.Sums, 0, 1)
			}
			wantMost(t, s, pairs, make([]int, events)...)
			// One more of them is decisive.
			if 2*pairs < impl.MaxContexts {
				s.Contexts, s.Sums = append(s.Contexts, []int{events - 1}), append(s.Sums, 1)
				want := make([]int, events)
				want[events-1] = 1
				wantMost(t, s, pairs+1, want...)
			}
		}
	}
}
