package tests

import (
	"fmt"
	"math/rand"
	"slices"
	"testing"

	"loop.example/g01141/impl"
)

func mustFlipEvent(t *testing.T, s impl.Scene, event int) impl.Scene {
	t.Helper()
	flipped, ok := impl.FlipEvent(s, event)
	if !ok || !impl.IsScene(flipped) {
		t.Fatalf("FlipEvent(%v, %d) = %v, %v", s, event, flipped, ok)
	}
	return flipped
}

func mustJoin(t *testing.T, a, b impl.Scene) impl.Scene {
	t.Helper()
	joined, ok := impl.JoinScenes(a, b)
	if !ok || !impl.IsScene(joined) {
		t.Fatalf("JoinScenes(%v, %v) = %v, %v", a, b, joined, ok)
	}
	return joined
}

func mustOddScene(t *testing.T, s impl.Scene) impl.Scene {
	t.Helper()
	odd, ok := impl.OddScene(s)
	if !ok || !impl.IsScene(odd) {
		t.Fatalf("OddScene(%v) = %v, %v", s, odd, ok)
	}
	return odd
}

func mustCount(t *testing.T, s impl.Scene) int {
	t.Helper()
	count, ok := impl.CountSolutions(s)
	if !ok {
		t.Fatalf("CountSolutions(%v) fails", s)
	}
	return count
}

// checkFlipEvent compares the flip of one event with the definition: solutions move, and twice leaves the Scene as it was.
func checkFlipEvent(t *testing.T, s impl.Scene, event int) {
	t.Helper()
	want := copyScene(s)
	for place, context := range s.Contexts {
		if slices.Contains(context, event) {
			want.Sums[place] = 1 - want.Sums[place]
		}
	}
	flipped := mustFlipEvent(t, s, event)
	wantScene(t, fmt.Sprintf("FlipEvent(%v, %d)", s, event), flipped, true, want)
	wantScene(t, fmt.Sprintf("FlipEvent(%v, %d)", flipped, event), mustFlipEvent(t, flipped, event), true, s)
	for _, assignment := range allLists(s.Events, 2) {
		other := slices.Clone(assignment)
		other[event] ^= 1
		wantSolves(t, flipped, other, solvesByHand(s, assignment))
		wantKept(t, flipped, other, keptByHand(s, assignment)...)
	}
	if mustCount(t, flipped) != mustCount(t, s) {
		t.Fatalf("%v has other numbers of solutions than %v", flipped, s)
	}
}

func TestFlipEventByHand(t *testing.T) {
	s := scene(4, []int{1, 0, 1, 0}, []int{0, 1}, []int{1, 2, 3}, []int{3}, []int{0, 3})
	for event, sums := range [][]int{{0, 0, 1, 1}, {0, 1, 1, 0}, {1, 1, 1, 0}, {1, 1, 0, 1}} {
		want := copyScene(s)
		want.Sums = sums
		wantScene(t, fmt.Sprintf("FlipEvent(%v, %d)", s, event), mustFlipEvent(t, s, event), true, want)
	}
	// An event that is in no context flips nothing.
	s.Events = 12
	for event := 4; event < 12; event++ {
		wantScene(t, fmt.Sprintf("FlipEvent(%v, %d)", s, event), mustFlipEvent(t, s, event), true, s)
	}
}

func TestFlipEvent(t *testing.T) {
	for _, s := range append(smallScenes(), manyScenes(rand.New(rand.NewSource(130)), 5)...) {
		for event := range s.Events {
			if s.Events < 7 || event%4 == 3 {
				checkFlipEvent(t, s, event)
			}
		}
	}
}

func TestOtherEventsAreNotFlipped(t *testing.T) {
	for events := range impl.MaxEvents + 1 {
		for _, s := range []impl.Scene{{Events: events}, fullScene(events, min(events, 3))} {
			for _, event := range append(extremeInts(), -1, -2, -12, events, events+1, 12, 13, 63, 64, 100) {
				flipped, ok := impl.FlipEvent(s, event)
				wantNoScene(t, fmt.Sprintf("FlipEvent(%v, %d)", s, event), flipped, ok)
			}
		}
	}
}

func joinedByHand(a, b impl.Scene) impl.Scene {
	joined := copyScene(a)
	joined.Events += b.Events
	for place, context := range b.Contexts {
		var moved []int
		for _, event := range context {
			moved = append(moved, a.Events+event)
		}
		joined.Contexts, joined.Sums = append(joined.Contexts, moved), append(joined.Sums, b.Sums[place])
	}
	return joined
}

// checkJoin compares what two Scenes are together with the definition, and solutions and picks with the products.
func checkJoin(t *testing.T, a, b impl.Scene) {
	t.Helper()
	what := fmt.Sprintf("JoinScenes(%v, %v)", a, b)
	joined, ok := impl.JoinScenes(a, b)
	if a.Events+b.Events > impl.MaxEvents || len(a.Contexts)+len(b.Contexts) > impl.MaxContexts {
		wantNoScene(t, what, joined, ok)
		return
	}
	wantScene(t, what, joined, ok, joinedByHand(a, b))
	wantCount(t, joined, mustCount(t, a)*mustCount(t, b))
	one, _ := impl.CountPicks(a)
	two, _ := impl.CountPicks(b)
	wantPicks(t, joined, one*two)
	rank, _ := impl.RankOfScene(a)
	other, _ := impl.RankOfScene(b)
	wantRank(t, joined, rank+other)
	first, solved := impl.FirstSolution(a)
	second, both := impl.FirstSolution(b)
	if solved && both {
		wantFirstSolution(t, joined, slices.Concat(first, second)...)
	} else {
		wantNoSolution(t, joined)
	}
	most, list, _ := impl.MostKept(a)
	more, rest, _ := impl.MostKept(b)
	wantMost(t, joined, most+more, slices.Concat(list, rest)...)
}

func TestJoinScenesByHand(t *testing.T) {
	a, b := scene(2, []int{1}, []int{0, 1}), scene(3, []int{0, 1}, []int{0, 2}, []int{1})
	wantScene(t, "JoinScenes(a, b)", mustJoin(t, a, b), true, scene(5, []int{1, 0, 1}, []int{0, 1}, []int{2, 4}, []int{3}))
	wantScene(t, "JoinScenes(b, a)", mustJoin(t, b, a), true, scene(5, []int{0, 1, 1}, []int{0, 2}, []int{1}, []int{3, 4}))
	wantScene(t, "JoinScenes(a, a)", mustJoin(t, a, a), true, scene(4, []int{1, 1}, []int{0, 1}, []int{2, 3}))
	wantCount(t, mustJoin(t, a, b), 4)
	wantPicks(t, mustJoin(t, a, b), 4)
	// The square has no solution, and so what is joined with it has none either, but the picks of both.
	joined := mustJoin(t, impl.SquareScene(), b)
	wantProof(t, joined, 0, 1, 2, 3, 4, 5)
	wantPicks(t, joined, 12)
	wantProof(t, mustJoin(t, b, impl.SquareScene()), 2, 3, 4, 5, 6, 7)
}

func TestJoinScenes(t *testing.T) {
	r := rand.New(rand.NewSource(131))
	small := smallScenes()
	for range 3000 {
		checkJoin(t, small[r.Intn(len(small))], small[r.Intn(len(small))])
	}
	for range 500 {
		a, b := someScene(r, r.Intn(9), r.Intn(7)), somePickScene(r, r.Intn(9), r.Intn(7))
		checkJoin(t, a, b)
		checkJoin(t, b, a)
	}
}

// The limits are reached just, and passed by one, by the number of events and by that of contexts.
func TestJoinScenesUpToTheLimits(t *testing.T) {
	r := rand.New(rand.NewSource(132))
	for events := range impl.MaxEvents + 1 {
		for contexts := range impl.MaxContexts + 1 {
			for more := range 2 {
				for others := range 2 {
					a, b := someScene(r, events, contexts), someScene(r, impl.MaxEvents-events+more, impl.MaxContexts-contexts+others)
					if impl.IsScene(b) {
						checkJoin(t, a, b)
					}
				}
			}
		}
	}
	full, one := fullScene(impl.MaxEvents, impl.MaxContexts), impl.Scene{Events: 1}
	checkJoin(t, full, impl.Scene{})
	checkJoin(t, impl.Scene{}, full)
	for _, c := range [][2]impl.Scene{{full, one}, {one, full}, {full, full}, {fullScene(1, 10), fullScene(1, 1)}, {fullScene(1, 1), fullScene(1, 10)}, {fullScene(12, 1), fullScene(1, 1)}} {
		joined, ok := impl.JoinScenes(c[0], c[1])
		wantNoScene(t, fmt.Sprintf("JoinScenes(%v, %v)", c[0], c[1]), joined, ok)
	}
	for _, c := range [][2]impl.Scene{{fullScene(1, 10), one}, {fullScene(1, 9), fullScene(11, 1)}, {fullScene(6, 5), fullScene(6, 5)}, {one, fullScene(11, 10)}} {
		checkJoin(t, c[0], c[1])
		mustJoin(t, c[0], c[1])
	}
}

// Together, they would have as many sums as contexts.
func TestScenesThatAreFlawedTogetherAreNotJoined(t *testing.T) {
	more, less := scene(1, []int{0, 1}, []int{0}), scene(1, []int{}, []int{0})
	before, behind := scene(-1, []int{}), scene(2, []int{0}, []int{0})
	for _, c := range [][2]impl.Scene{{more, less}, {less, more}, {before, behind}, {behind, before}} {
		joined, ok := impl.JoinScenes(c[0], c[1])
		wantNoScene(t, fmt.Sprintf("JoinScenes(%v, %v)", c[0], c[1]), joined, ok)
	}
}

// A Scene of nothing leaves the other one as it is.
func TestJoinScenesOfNothing(t *testing.T) {
	for _, s := range manyScenes(rand.New(rand.NewSource(133)), 1) {
		wantScene(t, fmt.Sprintf("JoinScenes(%v, nothing)", s), mustJoin(t, s, impl.Scene{}), true, s)
		wantScene(t, fmt.Sprintf("JoinScenes(nothing, %v)", s), mustJoin(t, impl.Scene{}, s), true, s)
	}
}

func TestOddScene(t *testing.T) {
	for _, s := range append(smallScenes(), manyScenes(rand.New(rand.NewSource(134)), 5)...) {
		want := copyScene(s)
		want.Sums = slices.Repeat([]int{1}, len(s.Contexts))
		odd := mustOddScene(t, s)
		wantScene(t, fmt.Sprintf("OddScene(%v)", s), odd, true, want)
		wantScene(t, fmt.Sprintf("OddScene(%v)", odd), mustOddScene(t, odd), true, odd)
		for _, assignment := range assignmentsBy(s, picksByHand) {
			wantSolves(t, odd, assignment, true)
		}
	}
}

// The square and the star, with each context odd, have no picks, or are solved by them.
func TestOddSquareAndStar(t *testing.T) {
	square, star := mustOddScene(t, impl.SquareScene()), mustOddScene(t, impl.StarScene())
	wantNoProof(t, square)
	wantCount(t, square, 16)
	wantPicks(t, square, 6)
	wantFirstPick(t, square, 0, 0, 1, 0, 1, 0, 1, 0, 0)
	wantProof(t, star, 0, 1, 2, 3, 4)
	wantPicks(t, star, 0)
}
