package tests

import (
	"fmt"
	"math/rand"
	"slices"
	"testing"

	"loop.example/g01141/impl"
)

// l7Arguments are those of all functions of chapter 7 at once; Events and event are counted from 1 here, so that nothing is no
// Scene and no event.
type l7Arguments struct {
	s, other         impl.Scene
	assignment, list []int
	event            int
}

// sceneResults look at the Contexts twice: with the Sums as the lists of one result, and as rows with room behind them.
func sceneResults(name string, s impl.Scene, ok bool) []layerResult {
	lists := slices.Clone(s.Contexts)
	if s.Sums != nil {
		lists = append(lists, s.Sums)
	}
	all := layerResult{name, fmt.Sprint(s.Events), lists, isZeroScene(s), ok}
	return []layerResult{all, rowsResult(name+", Contexts", s.Contexts, ok)}
}

func fromZero(s impl.Scene) impl.Scene {
	s.Events--
	return s
}

func fromOne(s impl.Scene) impl.Scene {
	s.Events++
	return s
}

func (v l7Arguments) call() []layerResult {
	var results []layerResult
	add := func(list ...layerResult) { results = append(results, list...) }
	s, other, event := fromZero(v.s), fromZero(v.other), v.event-1
	is := impl.IsScene(s)
	add(reportResult("IsScene", is, is))
	list, ok := impl.KeptBy(s, v.assignment)
	add(listResult("KeptBy", list, ok))
	is, ok = impl.SolvesScene(s, v.assignment)
	add(reportResult("SolvesScene", is, ok))
	list, ok = impl.FirstSolution(s)
	add(listResult("FirstSolution", list, ok))
	n, ok := impl.CountSolutions(s)
	add(numberResult("CountSolutions", ok, n))
	n, ok = impl.RankOfScene(s)
	add(numberResult("RankOfScene", ok, n))
	is, ok = impl.IsParityProof(s, v.list)
	add(reportResult("IsParityProof", is, ok))
	list, ok = impl.FindParityProof(s)
	add(listResult("FindParityProof", list, ok))
	n, list, ok = impl.MostKept(s)
	add(scoredResult("MostKept", list, n, ok))
	made, ok := impl.FlipEvent(s, event)
	add(sceneResults("FlipEvent", made, ok)...)
	made, ok = impl.JoinScenes(s, other)
	add(sceneResults("JoinScenes", made, ok)...)
	is, ok = impl.Picks(s, v.assignment)
	add(reportResult("Picks", is, ok))
	list, ok = impl.FirstPick(s)
	add(listResult("FirstPick", list, ok))
	n, ok = impl.CountPicks(s)
	add(numberResult("CountPicks", ok, n))
	made, ok = impl.OddScene(s)
	add(sceneResults("OddScene", made, ok)...)
	return results
}

func sceneWithRoom(s impl.Scene) impl.Scene {
	s.Contexts, s.Sums = rowsWithRoom(s.Contexts), withRoom(s.Sums)
	return s
}

func (v l7Arguments) withRoom() l7Arguments {
	v.s, v.other = sceneWithRoom(v.s), sceneWithRoom(v.other)
	v.assignment, v.list = withRoom(v.assignment), withRoom(v.list)
	return v
}

func (v l7Arguments) memory() string {
	s := fmt.Sprint(v.s.Events, v.other.Events, v.event) + memoryOfRows(v.s.Contexts) + memoryOfRows(v.other.Contexts)
	return s + memoryOfLists(v.s.Sums, v.other.Sums, v.assignment, v.list)
}

func wildScene(r *rand.Rand, events, contexts int) impl.Scene {
	s := []impl.Scene{someScene(r, events, contexts), somePickScene(r, events, contexts)}[r.Intn(2)]
	switch r.Intn(12) {
	case 0:
		if len(s.Contexts) > 0 {
			s.Contexts = wildRows(r, s.Contexts)
		}
	case 1:
		s.Events = wildInt(r)
	case 2:
		if len(s.Sums) > 0 {
			s.Sums[r.Intn(len(s.Sums))] = wildInt(r)
		}
	case 3:
		s.Sums = wildList(r)
	case 4:
		s.Contexts = nil
	}
	return fromOne(s)
}

func (v *l7Arguments) spoil(r *rand.Rand) {
	switch r.Intn(8) {
	case 0:
		v.assignment = wildList(r)
	case 1:
		v.list = wildList(r)
	case 2:
		v.event = wildInt(r)
	}
}

// Most Scenes are small, as the greater ones take longer.
func wildL7Arguments(r *rand.Rand) l7Arguments {
	events, contexts := r.Intn(6), r.Intn(5)
	if r.Intn(20) == 0 {
		events, contexts = r.Intn(impl.MaxEvents+1), r.Intn(impl.MaxContexts+1)
	}
	places := allPlaces(contexts)
	v := l7Arguments{
		s: wildScene(r, events, contexts), other: wildScene(r, r.Intn(8), r.Intn(7)),
		assignment: someBits(r, events), list: places[r.Intn(len(places))], event: 1 + r.Intn(max(events, 1)),
	}
	v.spoil(r)
	return v
}

func TestLayer7IsTotalAndChangesNothing(t *testing.T) {
	r := rand.New(rand.NewSource(138))
	checkTotal(t, func() l7Arguments { return wildL7Arguments(r) })
}

// The arguments are such that a function could return a part of them as it is: the assignment is the first solution, the first
// pick and the one that most contexts keep, the list is the parity proof, the event is in no context, all sums are 1 already, and
// nothing is joined with the Scene.
func TestLayer7SharesNoMemory(t *testing.T) {
	solved := scene(3, []int{1, 1}, []int{0, 1}, []int{1})
	for _, other := range []impl.Scene{{}, scene(2, nil), scene(2, []int{1}, []int{0, 1})} {
		checkSharesNothing(t, l7Arguments{
			s: fromOne(solved), other: fromOne(other), assignment: []int{0, 1, 0}, list: []int{0, 1}, event: 3,
		}, "FindParityProof")
		checkSharesNothing(t, l7Arguments{s: fromOne(other), other: fromOne(solved), assignment: make([]int, other.Events), event: 1}, failingFor(other)...)
	}
	proved := scene(3, []int{1, 0}, []int{0, 1}, []int{0, 1})
	checkSharesNothing(t, l7Arguments{
		s: fromOne(proved), other: fromOne(impl.Scene{}), assignment: []int{0, 0, 0}, list: []int{0, 1}, event: 3,
	}, "FirstSolution")
}

// failingFor has the functions that fail for a Scene that has a solution, and perhaps no events.
func failingFor(s impl.Scene) []string {
	failing := []string{"FindParityProof"}
	if s.Events == 0 {
		failing = append(failing, "FlipEvent", "FlipEvent, Contexts")
	}
	return failing
}
