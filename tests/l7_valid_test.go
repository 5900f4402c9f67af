package tests

import (
	"math/rand"
	"slices"
	"testing"

	"loop.example/g01141/impl"
)

// flawedScene is none. A good one with as many events, where there can be so many, stands beside it.
type flawedScene struct {
	bad, good impl.Scene
}

func flawedScenes() []flawedScene {
	flawed := flawedNumbersOfEvents()
	for _, good := range goodScenes() {
		for _, bad := range slices.Concat(flawedNumbersOfSums(good), flawedSums(good), flawedContexts(good)) {
			flawed = append(flawed, flawedScene{bad, good})
		}
	}
	long := fullScene(impl.MaxEvents, impl.MaxContexts)
	for _, size := range []int{impl.MaxContexts + 1, impl.MaxContexts + 2, 2 * impl.MaxContexts, 64, 100} {
		flawed = append(flawed, flawedScene{fullScene(impl.MaxEvents, size), long}, flawedScene{fullScene(1, size), fullScene(1, 1)})
	}
	return flawed
}

func goodScenes() []impl.Scene {
	return []impl.Scene{
		scene(1, []int{1}, []int{0}),
		scene(2, []int{0, 1}, []int{0, 1}, []int{1}),
		scene(3, []int{0, 1, 0}, []int{0, 1, 2}, []int{0, 2}, []int{1}),
		impl.SquareScene(),
		fullScene(impl.MaxEvents, impl.MaxContexts),
	}
}

// fullScene has contexts of all events.
func fullScene(events, contexts int) impl.Scene {
	s := impl.Scene{Events: events}
	for range contexts {
		s.Contexts, s.Sums = append(s.Contexts, eventsFrom(0, events)), append(s.Sums, 0)
	}
	return s
}

// They are without contexts, with a context of one event, with contexts of MaxEvents, or with one that fits the number of events.
func flawedNumbersOfEvents() []flawedScene {
	var flawed []flawedScene
	for _, n := range append(extremeInts(), -1, -2, -3, -12, -13, impl.MaxEvents+1, impl.MaxEvents+2, 64, 100) {
		flawed = append(flawed,
			flawedScene{impl.Scene{Events: n}, impl.Scene{}},
			flawedScene{scene(n, []int{0}, []int{0}), scene(1, []int{0}, []int{0})},
			flawedScene{fullScene(impl.MaxEvents, 2), fullScene(impl.MaxEvents, 2)},
		)
		flawed[len(flawed)-1].bad.Events = n
		if n > 0 && n <= 100 {
			flawed = append(flawed, flawedScene{fullScene(n, 1), fullScene(impl.MaxEvents, 1)})
		}
	}
	// There are no events at all, or just one too few.
	for events := range impl.MaxEvents {
		bad, good := fullScene(events+1, 1), fullScene(events, 0)
		bad.Events = events
		flawed = append(flawed, flawedScene{bad, good})
	}
	return append(flawed, flawedScene{scene(0, []int{0}, []int{0}), impl.Scene{}}, flawedScene{scene(0, []int{0}, nil), impl.Scene{}})
}

func flawedNumbersOfSums(good impl.Scene) []impl.Scene {
	last := len(good.Sums) - 1
	changes := []func(s *impl.Scene){
		func(s *impl.Scene) { s.Sums = nil },
		func(s *impl.Scene) { s.Sums = []int{} },
		func(s *impl.Scene) { s.Sums = s.Sums[:last] },
		func(s *impl.Scene) { s.Sums = append(s.Sums, 0) },
		func(s *impl.Scene) { s.Sums = append(s.Sums, s.Sums...) },
		func(s *impl.Scene) { s.Contexts = nil },
		func(s *impl.Scene) { s.Contexts = [][]int{} },
		func(s *impl.Scene) { s.Contexts = s.Contexts[:last] },
		func(s *impl.Scene) { s.Contexts = append(s.Contexts, []int{0}) },
		func(s *impl.Scene) { s.Contexts = make([][]int, last+1) },
	}
	var flawed []impl.Scene
	for _, change := range changes {
		bad := copyScene(good)
		change(&bad)
		flawed = append(flawed, bad)
	}
	return flawed
}

func flawedSums(good impl.Scene) []impl.Scene {
	var flawed []impl.Scene
	for place := range good.Sums {
		for _, n := range append(extremeInts(), -1, -2, 2, 3) {
			bad := copyScene(good)
			bad.Sums[place] = n
			flawed = append(flawed, bad)
		}
	}
	return flawed
}

func flawedContexts(good impl.Scene) []impl.Scene {
	last := good.Events - 1
	lists := [][]int{nil, {}, {-1}, {last + 1}, {last, last}, {last, last, last}, {0, 0}, {-1, 0}, {last, last + 1}, {last, 0}, {1, 0}, {0, 2, 1}, {0, 1, 1}, {0, 0, 1}, {0, 2, 2}, {2, 1}, make([]int, 100), eventsFrom(0, last+2), eventsFrom(-1, last+2)}
	var flawed []impl.Scene
	for place, context := range good.Contexts {
		for _, list := range lists {
			bad := copyScene(good)
			bad.Contexts[place] = list
			flawed = append(flawed, bad)
		}
		for i := range context {
			for _, n := range append(extremeInts(), -1, -2, last+1, last+2, 64) {
				bad := copyScene(good)
				bad.Contexts[place][i] = n
				flawed = append(flawed, bad)
			}
		}
	}
	return flawed
}

func TestFlawedScenesAreNone(t *testing.T) {
	for _, f := range flawedScenes() {
		if impl.IsScene(f.bad) {
			t.Fatalf("IsScene(%v)", f.bad)
		}
		if !impl.IsScene(f.good) {
			t.Fatalf("not IsScene(%v)", f.good)
		}
	}
}

func TestScenesOfEachSize(t *testing.T) {
	for _, s := range append(smallScenes(), manyScenes(rand.New(rand.NewSource(121)), 20)...) {
		if !impl.IsScene(s) {
			t.Fatalf("not IsScene(%v)", s)
		}
	}
	for events := 1; events <= impl.MaxEvents; events++ {
		for contexts := range impl.MaxContexts + 1 {
			if s := fullScene(events, contexts); !impl.IsScene(s) {
				t.Errorf("not IsScene(%v)", s)
			}
		}
		for event := range events {
			if s := scene(events, []int{1}, []int{event}); !impl.IsScene(s) {
				t.Errorf("not IsScene(%v)", s)
			}
		}
	}
}

func TestLimitsOfScenes(t *testing.T) {
	for events := 10; events < 15; events++ {
		if s := (impl.Scene{Events: events}); impl.IsScene(s) != (events <= 12) {
			t.Errorf("IsScene(%v) is not %v", s, events <= 12)
		}
	}
	for contexts := 8; contexts < 13; contexts++ {
		if s := fullScene(12, contexts); impl.IsScene(s) != (contexts <= 10) {
			t.Errorf("IsScene(%v) is not %v", s, contexts <= 10)
		}
	}
}

// A nil list is the same as an empty one.
func TestScenesOfNothing(t *testing.T) {
	for events := range impl.MaxEvents + 1 {
		for _, s := range []impl.Scene{{Events: events}, {Events: events, Contexts: [][]int{}}, {Events: events, Sums: []int{}}, scene(events, []int{})} {
			if !impl.IsScene(s) {
				t.Errorf("not IsScene(%v)", s)
			}
		}
	}
}

// Some of the contexts are of no events, not ascending or have events that are not there.
func TestEachSmallContextIsValidExactlyIfItAscends(t *testing.T) {
	for size := range 4 {
		for _, context := range allLists(size, 5) {
			for i := range context {
				context[i]--
			}
			want := slices.ContainsFunc(allPlaces(3)[1:], func(list []int) bool { return slices.Equal(list, context) })
			if impl.IsScene(scene(3, []int{0}, context)) != want || impl.IsScene(scene(3, []int{1, 0}, []int{2}, context)) != want {
				t.Errorf("IsScene with the context %v is not %v", context, want)
			}
		}
	}
}

// ofScene calls a function for a Scene that may not be valid, beside other arguments that fit a good one, and tells whether it
// was successful and whether all other results were zero.
type ofScene func(bad, good impl.Scene) (ok bool, zero bool)

func callsOfScenes() map[string]ofScene {
	return map[string]ofScene{
		"IsScene": func(s, _ impl.Scene) (bool, bool) { return impl.IsScene(s), true },
		"KeptBy": func(s, good impl.Scene) (bool, bool) {
			list, ok := impl.KeptBy(s, make([]int, good.Events))
			return ok, len(list) == 0
		},
		"SolvesScene": func(s, good impl.Scene) (bool, bool) {
			is, ok := impl.SolvesScene(s, make([]int, good.Events))
			return ok, !is
		},
		"SolvesScene by nothing": func(s, _ impl.Scene) (bool, bool) { is, ok := impl.SolvesScene(s, nil); return ok, !is },
		"CountSolutions":         func(s, _ impl.Scene) (bool, bool) { n, ok := impl.CountSolutions(s); return ok, n == 0 },
		"RankOfScene":            func(s, _ impl.Scene) (bool, bool) { n, ok := impl.RankOfScene(s); return ok, n == 0 },
		"IsParityProof": func(s, good impl.Scene) (bool, bool) {
			is, ok := impl.IsParityProof(s, eventsFrom(0, len(good.Contexts)))
			return ok, !is
		},
		"IsParityProof of nothing": func(s, _ impl.Scene) (bool, bool) { is, ok := impl.IsParityProof(s, nil); return ok, !is },
		"MostKept": func(s, _ impl.Scene) (bool, bool) {
			n, list, ok := impl.MostKept(s)
			return ok, n == 0 && len(list) == 0
		},
		"JoinScenes, 1st": func(s, _ impl.Scene) (bool, bool) {
			joined, ok := impl.JoinScenes(s, impl.Scene{})
			return ok, isZeroScene(joined)
		},
		"JoinScenes, 2nd": func(s, _ impl.Scene) (bool, bool) {
			joined, ok := impl.JoinScenes(impl.Scene{}, s)
			return ok, isZeroScene(joined)
		},
		"Picks": func(s, good impl.Scene) (bool, bool) {
			is, ok := impl.Picks(s, make([]int, good.Events))
			return ok, !is
		},
		"CountPicks": func(s, _ impl.Scene) (bool, bool) { n, ok := impl.CountPicks(s); return ok, n == 0 },
		"OddScene":   func(s, _ impl.Scene) (bool, bool) { odd, ok := impl.OddScene(s); return ok, isZeroScene(odd) },
	}
}

// callsOfSomeScenes calls the functions that also fail for other reasons.
func callsOfSomeScenes() map[string]ofScene {
	return map[string]ofScene{
		"FirstSolution":   func(s, _ impl.Scene) (bool, bool) { list, ok := impl.FirstSolution(s); return ok, len(list) == 0 },
		"FindParityProof": func(s, _ impl.Scene) (bool, bool) { list, ok := impl.FindParityProof(s); return ok, len(list) == 0 },
		"FirstPick":       func(s, _ impl.Scene) (bool, bool) { list, ok := impl.FirstPick(s); return ok, len(list) == 0 },
		"FlipEvent":       func(s, _ impl.Scene) (bool, bool) { f, ok := impl.FlipEvent(s, 0); return ok, isZeroScene(f) },
		"JoinScenes": func(s, _ impl.Scene) (bool, bool) {
			joined, ok := impl.JoinScenes(s, s)
			return ok, isZeroScene(joined)
		},
		// Events less than 0, or that are not there, would be right with those of the other one.
		"JoinScenes, 1st, with 3 events": func(s, _ impl.Scene) (bool, bool) {
			joined, ok := impl.JoinScenes(s, impl.Scene{Events: 3})
			return ok, isZeroScene(joined)
		},
		"JoinScenes, 2nd, with 3 events": func(s, _ impl.Scene) (bool, bool) {
			joined, ok := impl.JoinScenes(impl.Scene{Events: 3}, s)
			return ok, isZeroScene(joined)
		},
	}
}

func TestNoFunctionTakesAFlawedScene(t *testing.T) {
	for _, calls := range []map[string]ofScene{callsOfScenes(), callsOfSomeScenes()} {
		for name, call := range calls {
			for _, f := range flawedScenes() {
				if ok, zero := call(f.bad, f.good); ok || !zero {
					t.Fatalf("%s of %v: %v, zero results %v", name, f.bad, ok, zero)
				}
			}
		}
	}
}

// The others, which also fail for reasons of their own, have one Scene each for which they do not.
func TestEachFunctionTakesGoodScenes(t *testing.T) {
	for _, s := range append(goodScenes(), impl.Scene{}) {
		for name, call := range callsOfScenes() {
			if ok, _ := call(s, s); !ok {
				t.Fatalf("%s of %v fails", name, s)
			}
		}
	}
	solved, proved := fullScene(6, 5), scene(6, []int{0, 1}, eventsFrom(0, 6), eventsFrom(0, 6))
	for name, call := range callsOfSomeScenes() {
		s := solved
		if name == "FindParityProof" {
			s = proved
		}
		if ok, zero := call(s, s); !ok || zero {
			t.Errorf("%s of %v: %v, zero results %v", name, s, ok, zero)
		}
	}
}
