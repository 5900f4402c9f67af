package tests

import (
	"math/rand"
	"slices"
	"testing"

	"loop.example/g01141/impl"
)

func scene(events int, sums []int, contexts ...[]int) impl.Scene {
	return impl.Scene{Events: events, Contexts: contexts, Sums: sums}
}

func copyScene(s impl.Scene) impl.Scene {
	s.Contexts, s.Sums = copyRows(s.Contexts), slices.Clone(s.Sums)
	return s
}

func sameScene(a, b impl.Scene) bool {
	return a.Events == b.Events && sameRows(a.Contexts, b.Contexts) && slices.Equal(a.Sums, b.Sums)
}

func isZeroScene(s impl.Scene) bool {
	return s.Events == 0 && len(s.Contexts) == 0 && len(s.Sums) == 0
}

func wantScene(t *testing.T, what string, got impl.Scene, ok bool, want impl.Scene) {
	t.Helper()
	if !ok || !sameScene(got, want) {
		t.Fatalf("%s = %v, %v; want %v, true", what, got, ok, want)
	}
}

func wantNoScene(t *testing.T, what string, got impl.Scene, ok bool) {
	t.Helper()
	if ok || !isZeroScene(got) {
		t.Fatalf("%s = %v, %v; want no Scene, false", what, got, ok)
	}
}

// eventsFrom are so many, one after another.
func eventsFrom(first, size int) []int {
	list := make([]int, size)
	for i := range list {
		list[i] = first + i
	}
	return list
}

func onesOfContext(context, assignment []int) int {
	ones := 0
	for _, event := range context {
		ones += assignment[event]
	}
	return ones
}

func keptByHand(s impl.Scene, assignment []int) []int {
	var kept []int
	for place, context := range s.Contexts {
		if onesOfContext(context, assignment)%2 == s.Sums[place] {
			kept = append(kept, place)
		}
	}
	return kept
}

func solvesByHand(s impl.Scene, assignment []int) bool {
	return len(keptByHand(s, assignment)) == len(s.Contexts)
}

func picksByHand(s impl.Scene, assignment []int) bool {
	for _, context := range s.Contexts {
		if onesOfContext(context, assignment) != 1 {
			return false
		}
	}
	return true
}

// assignmentsBy has all of a Scene for which a test is true, in order.
func assignmentsBy(s impl.Scene, test func(impl.Scene, []int) bool) [][]int {
	var list [][]int
	for _, assignment := range allLists(s.Events, 2) {
		if test(s, assignment) {
			list = append(list, assignment)
		}
	}
	return list
}

// allPlaces has all strictly ascending lists of numbers less than size, by their length, and then in lexicographic order.
func allPlaces(size int) [][]int {
	all, last := [][]int{{}}, [][]int{{}}
	for range size {
		var longer [][]int
		for _, list := range last {
			start := 0
			if len(list) > 0 {
				start = list[len(list)-1] + 1
			}
			for place := start; place < size; place++ {
				longer = append(longer, append(slices.Clone(list), place))
			}
		}
		all = append(all, longer...)
		last = longer
	}
	return all
}

func hasOddEvent(s impl.Scene, places []int) bool {
	counts := make([]int, s.Events)
	for _, place := range places {
		for _, event := range s.Contexts[place] {
			counts[event]++
		}
	}
	return slices.ContainsFunc(counts, func(n int) bool { return n%2 == 1 })
}

func isProofByHand(s impl.Scene, places []int) bool {
	ones := 0
	for _, place := range places {
		if s.Sums[place] == 1 {
			ones++
		}
	}
	return ones%2 == 1 && !hasOddEvent(s, places)
}

// proofByHand is the first of all lists of places that are a parity proof.
func proofByHand(s impl.Scene) ([]int, bool) {
	lists := allPlaces(len(s.Contexts))
	first := slices.IndexFunc(lists, func(places []int) bool { return isProofByHand(s, places) })
	if first < 0 {
		return nil, false
	}
	return lists[first], true
}

// rankByHand looks, for all contexts that can be taken, at whichever some of them are taken.
func rankByHand(s impl.Scene) int {
	odd := make([]bool, 1<<len(s.Contexts))
	for _, places := range allPlaces(len(s.Contexts)) {
		odd[digitsOf(places)] = hasOddEvent(s, places)
	}
	rank := 0
	for _, taken := range allPlaces(len(s.Contexts)) {
		if len(taken) > rank && allPartsAreOdd(odd, digitsOf(taken)) {
			rank = len(taken)
		}
	}
	return rank
}

func digitsOf(places []int) int {
	digits := 0
	for _, place := range places {
		digits += 1 << place
	}
	return digits
}

// allPartsAreOdd looks at all digits that are some of those taken, at least one.
func allPartsAreOdd(odd []bool, taken int) bool {
	for part := taken; part > 0; part = (part - 1) & taken {
		if !odd[part] {
			return false
		}
	}
	return true
}

// numberedContext has the events that are the digits 1 of a number.
func numberedContext(number int) []int {
	var context []int
	for event := range impl.MaxEvents {
		if number>>event&1 == 1 {
			context = append(context, event)
		}
	}
	return context
}

// allScenes has all with so many events and contexts.
func allScenes(events, contexts int) []impl.Scene {
	kinds := 1<<events - 1
	var scenes []impl.Scene
	for _, list := range allLists(contexts, 2*kinds) {
		s := impl.Scene{Events: events}
		for _, n := range list {
			s.Contexts, s.Sums = append(s.Contexts, numberedContext(n/2+1)), append(s.Sums, n%2)
		}
		scenes = append(scenes, s)
	}
	return scenes
}

// smallScenes are all those of a few sizes.
func smallScenes() []impl.Scene {
	var scenes []impl.Scene
	for _, size := range [][2]int{{0, 0}, {1, 0}, {1, 1}, {1, 2}, {1, 3}, {1, 4}, {2, 0}, {2, 1}, {2, 2}, {2, 3}, {3, 0}, {3, 1}, {3, 2}, {3, 3}} {
		scenes = append(scenes, allScenes(size[0], size[1])...)
	}
	return scenes
}

// someContext has one event, all of them, a few or any, but at least one.
func someContext(r *rand.Rand, events int) []int {
	var size int
	switch r.Intn(6) {
	case 0:
		size = 1
	case 1:
		size = events
	case 2, 3:
		size = min(events, 1+r.Intn(3))
	default:
		return numberedContext(1 + r.Intn(1<<events-1))
	}
	context := r.Perm(events)[:size]
	slices.Sort(context)
	return context
}

// someScene has any sums, those that an assignment keeps, or those that it keeps but for one; some contexts are there twice.
func someScene(r *rand.Rand, events, contexts int) impl.Scene {
	s := impl.Scene{Events: events}
	if events == 0 {
		return s
	}
	hidden, kind := someBits(r, events), r.Intn(3)
	for len(s.Contexts) < contexts {
		context := someContext(r, events)
		if len(s.Contexts) > 0 && r.Intn(5) == 0 {
			context = slices.Clone(s.Contexts[r.Intn(len(s.Contexts))])
		}
		sum := onesOfContext(context, hidden) % 2
		if kind == 0 {
			sum = r.Intn(2)
		}
		s.Contexts, s.Sums = append(s.Contexts, context), append(s.Sums, sum)
	}
	if kind == 1 && contexts > 0 {
		s.Sums[r.Intn(contexts)] ^= 1
	}
	return s
}

// somePickScene has contexts with just one event of a hidden assignment, but for one of them in some Scenes.
func somePickScene(r *rand.Rand, events, contexts int) impl.Scene {
	s := impl.Scene{Events: events}
	if events == 0 {
		return s
	}
	hidden := someBits(r, events)
	hidden[r.Intn(events)] = 1
	for len(s.Contexts) < contexts {
		context := someContext(r, events)
		if onesOfContext(context, hidden) == 1 {
			s.Contexts, s.Sums = append(s.Contexts, context), append(s.Sums, r.Intn(2))
		}
		if len(s.Contexts) == 0 && r.Intn(100) == 0 {
			break
		}
	}
	if len(s.Contexts) > 0 && r.Intn(3) == 0 {
		s.Contexts[r.Intn(len(s.Contexts))] = someContext(r, events)
	}
	return s
}

// manyScenes are of all sizes, with the limits among them; greater ones, which take longer by hand, are fewer.
func manyScenes(r *rand.Rand, rounds int) []impl.Scene {
	scenes := []impl.Scene{{}}
	for events := 1; events <= impl.MaxEvents; events++ {
		for contexts := range impl.MaxContexts + 1 {
			for range 1 + rounds>>(events/2) {
				scenes = append(scenes, someScene(r, events, contexts), somePickScene(r, events, contexts))
			}
		}
	}
	return scenes
}

// checkBothKinds makes a check of each Scene that tells of which of two kinds it is, and wants enough of both.
func checkBothKinds(t *testing.T, scenes []impl.Scene, check func(*testing.T, impl.Scene) bool) {
	t.Helper()
	counts := map[bool]int{}
	for _, s := range scenes {
		counts[check(t, s)]++
	}
	if counts[true] < 200 || counts[false] < 200 {
		t.Errorf("%d Scenes are of one kind, and %d of the other one", counts[true], counts[false])
	}
}
