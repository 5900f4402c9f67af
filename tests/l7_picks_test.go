package tests

import (
	"fmt"
	"math/rand"
	"slices"
	"testing"

	"loop.example/g01141/impl"
)

func wantIsPick(t *testing.T, s impl.Scene, list []int, want bool) {
	t.Helper()
	if is, ok := impl.Picks(s, list); !ok || is != want {
		t.Fatalf("Picks(%v, %v) = %v, %v; want %v, true", s, list, is, ok, want)
	}
}

func wantPicks(t *testing.T, s impl.Scene, want int) {
	t.Helper()
	count, ok := impl.CountPicks(s)
	wantNumber(t, fmt.Sprintf("CountPicks(%v)", s), count, ok, want)
	if want == 0 {
		first, ok := impl.FirstPick(s)
		wantNoList(t, fmt.Sprintf("FirstPick(%v)", s), first, ok)
	}
}

func wantFirstPick(t *testing.T, s impl.Scene, want ...int) {
	t.Helper()
	first, ok := impl.FirstPick(s)
	wantList(t, fmt.Sprintf("FirstPick(%v)", s), first, ok, want...)
	wantIsPick(t, s, want, true)
}

// checkPicks compares Picks, FirstPick and CountPicks with all assignments, and reports whether one picks.
func checkPicks(t *testing.T, s impl.Scene) bool {
	t.Helper()
	odd := mustOddScene(t, s)
	var picks [][]int
	for _, assignment := range allLists(s.Events, 2) {
		is := picksByHand(s, assignment)
		wantIsPick(t, s, assignment, is)
		if is {
			picks = append(picks, assignment)
			wantSolves(t, odd, assignment, true)
		}
	}
	wantPicks(t, s, len(picks))
	if len(picks) > 0 {
		wantFirstPick(t, s, picks[0]...)
	}
	return len(picks) > 0
}

func TestPicksByHand(t *testing.T) {
	s := scene(4, []int{0, 1, 0}, []int{0, 1, 2}, []int{2, 3}, []int{0, 3})
	for _, c := range []struct {
		assignment []int
		want       bool
	}{
		{[]int{0, 0, 0, 0}, false},
		{[]int{1, 0, 1, 0}, false},
		{[]int{0, 1, 0, 1}, true},
		{[]int{1, 0, 0, 0}, false},
		{[]int{0, 0, 1, 1}, false},
		{[]int{1, 1, 1, 0}, false},
		{[]int{1, 1, 1, 1}, false},
	} {
		wantIsPick(t, s, c.assignment, c.want)
	}
	wantPicks(t, s, 1)
	wantFirstPick(t, s, 0, 1, 0, 1)
	// Three events of one context are odd, but no pick.
	three := scene(3, []int{1}, []int{0, 1, 2})
	wantIsPick(t, three, []int{1, 1, 1}, false)
	wantSolves(t, three, []int{1, 1, 1}, true)
	wantPicks(t, three, 3)
	wantFirstPick(t, three, 0, 0, 1)
	// No assignment picks one event of each of these, though one solves the OddScene.
	none := scene(3, []int{1, 1, 1, 0}, []int{0}, []int{1}, []int{2}, []int{0, 1, 2})
	wantPicks(t, none, 0)
	wantFirstSolution(t, mustOddScene(t, none), 1, 1, 1)
	wantPicks(t, scene(3, []int{0, 0, 0}, []int{0, 1}, []int{1, 2}, []int{0, 2}), 0)
	wantFirstPick(t, scene(3, []int{0, 0}, []int{0, 1}, []int{1, 2}), 0, 1, 0)
	wantFirstPick(t, scene(4, []int{0, 0}, []int{0, 1}, []int{3}), 0, 1, 0, 1)
}

func TestPicksOfAllSmallScenes(t *testing.T) {
	checkBothKinds(t, smallScenes(), checkPicks)
}

func TestPicksOfManyScenes(t *testing.T) {
	checkBothKinds(t, manyScenes(rand.New(rand.NewSource(135)), 20), checkPicks)
}

// Picks do not look at the sums.
func TestPicksWithOtherSums(t *testing.T) {
	r := rand.New(rand.NewSource(136))
	for range 500 {
		s := somePickScene(r, 1+r.Intn(impl.MaxEvents), r.Intn(impl.MaxContexts+1))
		other := copyScene(s)
		other.Sums = someBits(r, len(s.Sums))
		count, _ := impl.CountPicks(s)
		wantPicks(t, other, count)
		if first, ok := impl.FirstPick(s); ok {
			wantFirstPick(t, other, first...)
		}
	}
}

// checkPicksOneAfterAnother goes over all assignments by the functions alone.
func checkPicksOneAfterAnother(t *testing.T, s impl.Scene) {
	t.Helper()
	first, found := impl.FirstPick(s)
	count, ok := impl.CountPicks(s)
	if !ok || found != (count > 0) {
		t.Fatalf("%v has FirstPick %v, %v, and CountPicks %d, %v", s, first, found, count, ok)
	}
	odd := mustOddScene(t, s)
	before := true
	for _, assignment := range allLists(s.Events, 2) {
		is, ok := impl.Picks(s, assignment)
		if !ok || before && is && !slices.Equal(assignment, first) {
			t.Fatalf("Picks(%v, %v) = %v, %v; FirstPick is %v", s, assignment, is, ok, first)
		}
		if is {
			before = false
			count--
			wantSolves(t, odd, assignment, true)
		}
	}
	if count != 0 {
		t.Fatalf("CountPicks(%v) is greater by %d than the number of picks", s, count)
	}
}

func TestCountPicksIsTheNumberOfPicks(t *testing.T) {
	r := rand.New(rand.NewSource(137))
	for range 150 {
		checkPicksOneAfterAnother(t, somePickScene(r, r.Intn(impl.MaxEvents), r.Intn(impl.MaxContexts+1)))
	}
	for range 5 {
		checkPicksOneAfterAnother(t, somePickScene(r, impl.MaxEvents, impl.MaxContexts))
	}
}

// Without contexts, all assignments pick; without events, the empty one does.
func TestPicksOfNothing(t *testing.T) {
	for events := range impl.MaxEvents + 1 {
		s := impl.Scene{Events: events}
		wantPicks(t, s, 1<<events)
		wantFirstPick(t, s, make([]int, events)...)
	}
	wantIsPick(t, impl.Scene{}, nil, true)
	wantIsPick(t, impl.Scene{}, []int{}, true)
}

func TestPicksOfContextsOfAllEventsAndOfOne(t *testing.T) {
	for events := 1; events <= impl.MaxEvents; events++ {
		last := make([]int, events)
		last[events-1] = 1
		for contexts := 1; contexts <= impl.MaxContexts; contexts++ {
			wantPicks(t, fullScene(events, contexts), events)
			wantFirstPick(t, fullScene(events, contexts), last...)
		}
		for event := range events {
			want := make([]int, events)
			want[event] = 1
			s := scene(events, []int{0}, []int{event})
			wantPicks(t, s, 1<<(events-1))
			wantFirstPick(t, s, want...)
			s = scene(events, []int{0, 1, 0}, []int{event}, eventsFrom(0, events), []int{event})
			wantPicks(t, s, 1)
			wantFirstPick(t, s, want...)
		}
	}
}

func TestOtherListsPickNothing(t *testing.T) {
	for events := range impl.MaxEvents + 1 {
		for _, s := range []impl.Scene{{Events: events}, fullScene(events, min(events, 2))} {
			for _, list := range badBits(events) {
				wantIsPick(t, s, list, false)
			}
		}
	}
	s := scene(3, []int{1}, []int{0, 1, 2})
	for _, list := range [][]int{{1}, {1, 0}, {1, 0, 0, 0}, {2, -1, 0}, {3, -1, -1}, {0, 0, 3}, {-1, 1, 1}, {1, 0, 2}, {1, 0, -1}, nil} {
		wantIsPick(t, s, list, false)
	}
}
