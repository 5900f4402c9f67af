package tests

import (
	"fmt"
	"math/rand"
	"slices"
	"testing"

	"loop.example/g01141/impl"
)

func wantIsProof(t *testing.T, s impl.Scene, list []int, want bool) {
	t.Helper()
	if is, ok := impl.IsParityProof(s, list); !ok || is != want {
		t.Fatalf("IsParityProof(%v, %v) = %v, %v; want %v, true", s, list, is, ok, want)
	}
}

func wantProof(t *testing.T, s impl.Scene, want ...int) {
	t.Helper()
	proof, ok := impl.FindParityProof(s)
	wantList(t, fmt.Sprintf("FindParityProof(%v)", s), proof, ok, want...)
	wantIsProof(t, s, want, true)
	wantNoSolution(t, s)
}

func wantNoProof(t *testing.T, s impl.Scene) {
	t.Helper()
	proof, ok := impl.FindParityProof(s)
	wantNoList(t, fmt.Sprintf("FindParityProof(%v)", s), proof, ok)
}

// checkProofs compares all lists of places with the definition, and reports whether there is a proof.
func checkProofs(t *testing.T, s impl.Scene) bool {
	t.Helper()
	for _, places := range allPlaces(len(s.Contexts)) {
		wantIsProof(t, s, places, isProofByHand(s, places))
	}
	want, proved := proofByHand(s)
	if proved {
		wantProof(t, s, want...)
	} else {
		wantNoProof(t, s)
	}
	return proved
}

// checkEither looks at the promise by the functions alone: a solution or a proof, never both.
func checkEither(t *testing.T, s impl.Scene) {
	t.Helper()
	solution, solved := impl.FirstSolution(s)
	proof, proved := impl.FindParityProof(s)
	if solved == proved {
		t.Fatalf("%v has the FirstSolution %v, %v, and the FindParityProof %v, %v", s, solution, solved, proof, proved)
	}
	if solved {
		wantSolves(t, s, solution, true)
		wantKept(t, s, solution, eventsFrom(0, len(s.Contexts))...)
		return
	}
	for _, places := range allPlaces(len(s.Contexts)) {
		if slices.Equal(places, proof) {
			break
		}
		wantIsProof(t, s, places, false)
	}
	wantIsProof(t, s, proof, true)
	// Of the contexts of a proof, an assignment cannot keep all.
	for _, assignment := range allLists(min(s.Events, 5), 2) {
		assignment = append(assignment, make([]int, s.Events-len(assignment))...)
		kept, ok := impl.KeptBy(s, assignment)
		lost := slices.ContainsFunc(proof, func(place int) bool { return !slices.Contains(kept, place) })
		if !ok || !lost {
			t.Fatalf("%v keeps all of the parity proof %v of %v: %v, %v", assignment, proof, s, kept, ok)
		}
	}
}

func TestProofsByHand(t *testing.T) {
	for _, c := range []struct {
		s     impl.Scene
		proof []int
	}{
		{scene(1, []int{0, 1}, []int{0}, []int{0}), []int{0, 1}},
		{scene(1, []int{1, 0}, []int{0}, []int{0}), []int{0, 1}},
		{scene(1, []int{0, 0, 1}, []int{0}, []int{0}, []int{0}), []int{0, 2}},
		{scene(1, []int{1, 1, 0}, []int{0}, []int{0}, []int{0}), []int{0, 2}},
		{scene(3, []int{1, 1, 1}, []int{0, 1}, []int{1, 2}, []int{0, 2}), []int{0, 1, 2}},
		{scene(3, []int{1, 0, 0}, []int{0, 1}, []int{1, 2}, []int{0, 2}), []int{0, 1, 2}},
		{scene(2, []int{1, 0, 0}, []int{0, 1}, []int{0}, []int{1}), []int{0, 1, 2}},
		{scene(4, []int{0, 1, 1, 0}, []int{0, 3}, []int{1, 2}, []int{0, 3}, []int{2}), []int{0, 2}},
		{scene(5, []int{0, 1, 0, 0}, []int{2}, []int{4}, []int{0, 1, 2, 3}, []int{4}), []int{1, 3}},
	} {
		wantProof(t, c.s, c.proof...)
	}
	for _, s := range []impl.Scene{
		scene(1, []int{1}, []int{0}),
		scene(1, []int{1, 1}, []int{0}, []int{0}),
		scene(3, []int{1, 1, 0}, []int{0, 1}, []int{1, 2}, []int{0, 2}),
		scene(2, []int{1, 1, 0}, []int{0}, []int{1}, []int{0, 1}),
	} {
		wantNoProof(t, s)
	}
}

// The length comes first, so that a proof of two places at the end is found before one of three places at the start.
func TestShorterProofsComeFirst(t *testing.T) {
	s := scene(3, []int{1, 0, 0, 0, 1}, []int{0, 1}, []int{1, 2}, []int{0, 2}, []int{2}, []int{2})
	wantIsProof(t, s, []int{0, 1, 2}, true)
	wantProof(t, s, 3, 4)
	// Among those of the same length, the first place counts most.
	s = scene(4, []int{0, 0, 1, 1, 1, 0}, []int{3}, []int{0}, []int{1}, []int{0}, []int{3}, []int{1})
	wantIsProof(t, s, []int{1, 3}, true)
	wantIsProof(t, s, []int{2, 5}, true)
	wantProof(t, s, 0, 4)
	s = scene(3, []int{0, 1, 0, 1, 0, 1}, []int{0}, []int{1}, []int{1}, []int{0}, []int{0}, []int{0})
	wantProof(t, s, 0, 3)
	// Ten places are more than two, though they start with 0.
	s = scene(9, slices.Repeat([]int{0}, 10))
	for event := range 9 {
		s.Contexts = append(s.Contexts, []int{event})
	}
	s.Contexts, s.Sums[9] = append(s.Contexts, eventsFrom(0, 9)), 1
	wantProof(t, s, eventsFrom(0, 10)...)
	s.Contexts[7], s.Sums[8] = []int{8}, 1
	wantProof(t, s, 7, 8)
}

func TestProofsOfAllSmallScenes(t *testing.T) {
	checkBothKinds(t, append(smallScenes(), allScenes(2, 4)...), checkProofs)
}

func TestProofsOfManyScenes(t *testing.T) {
	checkBothKinds(t, manyScenes(rand.New(rand.NewSource(127)), 20), checkProofs)
}

func TestASolutionOrAProof(t *testing.T) {
	for _, s := range slices.Concat(smallScenes(), allScenes(2, 4), manyScenes(rand.New(rand.NewSource(139)), 20)) {
		checkEither(t, s)
	}
}

func TestNothingIsNoProof(t *testing.T) {
	for events := range impl.MaxEvents + 1 {
		s := impl.Scene{Events: events}
		wantNoProof(t, s)
		for _, list := range [][]int{nil, {}} {
			wantIsProof(t, s, list, false)
			wantIsProof(t, impl.SquareScene(), list, false)
		}
	}
}

func TestOtherListsAreNoProofs(t *testing.T) {
	square := impl.SquareScene()
	wantIsProof(t, square, []int{0, 1, 2, 3, 4, 5}, true)
	lists := [][]int{
		{1, 0, 2, 3, 4, 5}, {0, 1, 2, 3, 5, 4}, {5, 4, 3, 2, 1, 0}, {0, 0, 0, 1, 2, 3, 4, 5}, {0, 1, 2, 3, 4, 5, 5, 5},
		{0, 1, 2, 3, 4, 4, 4, 5}, {-1, 0, 1, 2, 3, 4, 5}, {0, 1, 2, 3, 4, 5, 6}, {0, 1, 2, 3, 4}, {1, 2, 3, 4, 5}, {0, 1, 2, 3, 4, 11}, {-6, 1, 2, 3, 4, 5},
		{5}, {0}, {-1}, {6}, {10}, make([]int, 100), eventsFrom(0, 100),
	}
	for place := range 6 {
		for _, n := range append(extremeInts(), -1, 6, 7, 10) {
			list := eventsFrom(0, 6)
			list[place] = n
			lists = append(lists, list, []int{n})
		}
	}
	for _, list := range lists {
		wantIsProof(t, square, list, false)
		wantIsProof(t, impl.StarScene(), list, slices.Equal(list, eventsFrom(0, 5)))
		wantIsProof(t, impl.Scene{}, list, false)
	}
	// Twice the same place is no proof, though each event is there twice, and the sums are odd with another one.
	s := scene(2, []int{1, 0, 0}, []int{0}, []int{0}, []int{1})
	wantIsProof(t, s, []int{0, 1}, true)
	for _, list := range [][]int{{1, 0}, {0, 0}, {1, 1}, {0, 1, 1, 1}, {0, 0, 0, 1}, {0, 1, 2, 2}, {0, 1, 2}, {0, 1, 3}} {
		wantIsProof(t, s, list, false)
	}
}

func wantNamedScene(t *testing.T, name string, call func() impl.Scene, want impl.Scene) {
	t.Helper()
	s := call()
	wantScene(t, name, s, impl.IsScene(s), want)
	// Each call makes it anew.
	for _, list := range append(s.Contexts, s.Sums) {
		list[0] = 7
	}
	s.Contexts[0] = nil
	s = call()
	wantScene(t, name+", again", s, impl.IsScene(s), want)
	if !overwrite(append(slices.Clone(s.Contexts), s.Sums)) {
		t.Errorf("two lists of %s share memory", name)
	}
	s = call()
	wantProof(t, s, eventsFrom(0, len(want.Contexts))...)
	wantRank(t, s, len(want.Contexts)-1)
	wantMost(t, s, len(want.Contexts)-1, make([]int, want.Events)...)
	for _, places := range allPlaces(len(want.Contexts)) {
		wantIsProof(t, s, places, len(places) == len(want.Contexts))
	}
	for _, assignment := range allLists(want.Events, 2) {
		wantSolves(t, s, assignment, false)
	}
}

func TestSquareScene(t *testing.T) {
	wantNamedScene(t, "SquareScene()", impl.SquareScene, scene(9, []int{0, 0, 0, 0, 0, 1},
		[]int{0, 1, 2}, []int{3, 4, 5}, []int{6, 7, 8}, []int{0, 3, 6}, []int{1, 4, 7}, []int{2, 5, 8}))
}

func TestStarScene(t *testing.T) {
	wantNamedScene(t, "StarScene()", impl.StarScene, scene(10, []int{1, 0, 0, 0, 0},
		[]int{0, 1, 2, 3}, []int{0, 4, 5, 6}, []int{1, 4, 7, 8}, []int{2, 5, 7, 9}, []int{3, 6, 8, 9}))
}

// With any sums, either an odd number of them is 1, or there are solutions.
func TestSquareAndStarWithOtherSums(t *testing.T) {
	for _, named := range []impl.Scene{impl.SquareScene(), impl.StarScene()} {
		size := len(named.Contexts)
		for _, sums := range allLists(size, 2) {
			s := copyScene(named)
			s.Sums = sums
			ones := 0
			for _, sum := range sums {
				ones += sum
			}
			if ones%2 == 1 {
				wantProof(t, s, eventsFrom(0, size)...)
			} else {
				wantNoProof(t, s)
				wantCount(t, s, 1<<(s.Events-size+1))
			}
		}
	}
}
