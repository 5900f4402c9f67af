package tests

import (
	"fmt"
	"math/rand"
	"slices"
	"testing"

	"loop.example/g01141/impl"
)

func wantTrioOf(t *testing.T, play []int, whole int) {
	t.Helper()
	trio, ok := impl.TrioOf(play, whole)
	wantTrio(t, fmt.Sprintf("TrioOf(%v, %d)", play, whole), trio, ok, trioOfByHand(play, whole))
}

func wantNoTrioOf(t *testing.T, play []int, whole int) {
	t.Helper()
	trio, ok := impl.TrioOf(play, whole)
	wantNoTrio(t, fmt.Sprintf("TrioOf(%v, %d)", play, whole), trio, ok)
}

func wantGroup(t *testing.T, alone int, own, joint []int, whole int) {
	t.Helper()
	trio, ok := impl.GroupTrio(alone, own, joint, whole)
	wantTrio(t, fmt.Sprintf("GroupTrio(%d, %v, %v, %d)", alone, own, joint, whole), trio, ok, groupTrioByHand(alone, own, joint, whole))
}

func wantNoGroup(t *testing.T, alone int, own, joint []int, whole int) {
	t.Helper()
	trio, ok := impl.GroupTrio(alone, own, joint, whole)
	wantNoTrio(t, fmt.Sprintf("GroupTrio(%d, %v, %v, %d)", alone, own, joint, whole), trio, ok)
}

func wantSumTrio(t *testing.T, odd []int) {
	t.Helper()
	trio, ok := impl.SumTrio(odd)
	wantTrio(t, fmt.Sprintf("SumTrio(%v)", odd), trio, ok, sumTrioByHand(odd))
}

// badWholes are those of no Trio.
func badWholes() []int {
	return append(extremeInts(), -impl.MaxWhole, -2, -1, 0, impl.MaxWhole+1, impl.MaxWhole+2, 2*impl.MaxWhole)
}

// answerRow has a number for the answers at one place alone.
func answerRow(place, whole int) []int {
	row := make([]int, 8)
	row[place] = whole
	return row
}

func TestTrioOfByHand(t *testing.T) {
	// The answers of the first player are 0 and 1, those of the second one 0 and 0, and those of the third one 1 and 0.
	want := impl.Trio{Whole: 7}
	for _, place := range []int{1, 0, 1, 0, 5, 4, 5, 4} {
		want.Rows = append(want.Rows, answerRow(place, 7))
	}
	trio, ok := impl.TrioOf([]int{0, 1, 0, 0, 1, 0}, 7)
	wantTrio(t, "TrioOf", trio, ok, want)
	// Players who always answer the same have the same row for all questions.
	for place, answers := range triplesOfBits {
		a, b, c := answers[0], answers[1], answers[2]
		trio, ok := impl.TrioOf([]int{a, a, b, b, c, c}, 3)
		wantTrio(t, "TrioOf", trio, ok, impl.Trio{Whole: 3, Rows: slices.Repeat([][]int{answerRow(place, 3)}, 8)})
	}
}

func TestTrioOfAllPlays(t *testing.T) {
	for _, play := range allLists(6, 2) {
		for _, whole := range []int{1, 2, 3, 17, impl.MaxWhole - 1, impl.MaxWhole} {
			wantTrioOf(t, play, whole)
		}
		for _, whole := range badWholes() {
			wantNoTrioOf(t, play, whole)
		}
	}
	for whole := 1; whole <= impl.MaxWhole; whole++ {
		wantTrioOf(t, []int{0, 1, 1, 0, 1, 1}, whole)
	}
}

func TestTrioOfOtherLists(t *testing.T) {
	for _, play := range badBits(6) {
		wantNoTrioOf(t, play, 1)
		wantNoTrioOf(t, play, impl.MaxWhole)
		wantNoTrioOf(t, play, 0)
	}
}

func TestSignSumOfTrioOfIsTwoTimesTheWhole(t *testing.T) {
	signs := map[int]int{}
	for _, play := range allLists(6, 2) {
		for _, whole := range []int{1, 5, impl.MaxWhole} {
			trio, ok := impl.TrioOf(play, whole)
			sum, summed := impl.SignSum(trio)
			if !ok || !summed || sum != 2*whole && sum != -2*whole {
				t.Errorf("SignSum(TrioOf(%v, %d)) = %d, %v", play, whole, sum, summed)
			}
			signs[sum/whole]++
		}
	}
	if signs[2] < 10 || signs[-2] < 10 {
		t.Errorf("sign sums by their signs: %v", signs)
	}
}

func TestGroupTrioByHand(t *testing.T) {
	// The answers of both others are 0, 0 and 0, 1 and 1, 0 and 1, 1, in the order of their questions, so that they repeat these.
	joint := []int{0, 0, 0, 1, 1, 0, 1, 1}
	places := [][]int{{4, 5, 6, 7, 0, 1, 2, 3}, {2, 3, 0, 1, 6, 7, 4, 5}, {1, 0, 3, 2, 5, 4, 7, 6}}
	for alone := range 3 {
		want := impl.Trio{Whole: 6}
		for _, place := range places[alone] {
			want.Rows = append(want.Rows, answerRow(place, 6))
		}
		trio, ok := impl.GroupTrio(alone, []int{1, 0}, joint, 6)
		wantTrio(t, fmt.Sprintf("GroupTrio(%d)", alone), trio, ok, want)
	}
	// The first player always answers 0, and each of the others with what the other one was asked.
	want := impl.Trio{Whole: 1}
	for _, place := range []int{0, 2, 1, 3, 0, 2, 1, 3} {
		want.Rows = append(want.Rows, answerRow(place, 1))
	}
	trio, ok := impl.GroupTrio(0, []int{0, 0}, []int{0, 0, 1, 0, 0, 1, 1, 1}, 1)
	wantTrio(t, "GroupTrio of exchanged questions", trio, ok, want)
}

func allGroupPlays(check func(alone int, own, joint []int)) {
	for alone := range 3 {
		for _, own := range allLists(2, 2) {
			for _, joint := range allLists(8, 2) {
				check(alone, own, joint)
			}
		}
	}
}

func TestGroupTrioOfAllGroupPlays(t *testing.T) {
	r := rand.New(rand.NewSource(1101))
	allGroupPlays(func(alone int, own, joint []int) {
		wantGroup(t, alone, own, joint, 1)
		wantGroup(t, alone, own, joint, []int{2, impl.MaxWhole, 1 + r.Intn(impl.MaxWhole)}[r.Intn(3)])
		bad := badWholes()
		wantNoGroup(t, alone, own, joint, bad[r.Intn(len(bad))])
	})
	for alone := range 3 {
		for whole := 1; whole <= impl.MaxWhole; whole++ {
			wantGroup(t, alone, []int{0, 1}, []int{0, 1, 1, 0, 1, 1, 0, 0}, whole)
		}
		for _, whole := range badWholes() {
			wantNoGroup(t, alone, []int{0, 1}, []int{0, 1, 1, 0, 1, 1, 0, 0}, whole)
		}
	}
}

func TestGroupTrioOfOtherLists(t *testing.T) {
	own, joint := []int{0, 1}, []int{0, 1, 1, 0, 1, 1, 0, 0}
	for alone := range 3 {
		for _, bad := range badBits(2) {
			wantNoGroup(t, alone, bad, joint, 1)
		}
		for _, bad := range badBits(8) {
			wantNoGroup(t, alone, own, bad, 1)
		}
		wantNoGroup(t, alone, joint, own, 1)
		wantNoGroup(t, alone, nil, nil, 1)
	}
	for _, alone := range append(extremeInts(), -3, -2, -1, 3, 4, 5, 7, 8) {
		wantNoGroup(t, alone, own, joint, 1)
		wantNoGroup(t, alone, nil, nil, 1)
	}
}

// othersOf are the two players beside one.
func othersOf(player int) [2]int { return [3][2]int{{1, 2}, {0, 2}, {0, 1}}[player] }

// apartPlay tells what the two players beside one answer by a trio play, as a group play has it.
func apartPlay(play []int, alone int) (own, joint []int) {
	others := othersOf(alone)
	for _, q := range allLists(2, 2) {
		joint = append(joint, play[2*others[0]+q[0]], play[2*others[1]+q[1]])
	}
	return play[2*alone : 2*alone+2], joint
}

func TestGroupTrioOfOwnQuestionsIsTrioOf(t *testing.T) {
	for _, play := range allLists(6, 2) {
		for alone := range 3 {
			own, joint := apartPlay(play, alone)
			trio, ok := impl.GroupTrio(alone, own, joint, 9)
			want, valid := impl.TrioOf(play, 9)
			wantTrio(t, fmt.Sprintf("GroupTrio(%d, %v, %v, 9)", alone, own, joint), trio, ok && valid, want)
		}
	}
}

// A group play is quiet exactly if it is told by the own questions alone.
func TestQuietGroupPlays(t *testing.T) {
	counts := map[bool]int{}
	allGroupPlays(func(alone int, own, joint []int) {
		trio, ok := impl.GroupTrio(alone, own, joint, 2)
		want := joint[0] == joint[2] && joint[4] == joint[6] && joint[1] == joint[5] && joint[3] == joint[7]
		quiet, valid := impl.IsQuietTrio(trio)
		if !ok || !valid || quiet != want {
			t.Fatalf("IsQuietTrio(GroupTrio(%d, %v, %v, 2)) = %v, %v; want %v", alone, own, joint, quiet, valid, want)
		}
		counts[quiet]++
	})
	if counts[true] != 3*64 || counts[false] != 3*4*(256-16) {
		t.Errorf("quiet or not: %v", counts)
	}
}

func TestSumTrioByHand(t *testing.T) {
	even, odd := []int{1, 0, 0, 1, 0, 1, 1, 0}, []int{0, 1, 1, 0, 1, 0, 0, 1}
	trio, ok := impl.SumTrio([]int{0, 0, 0, 1, 0, 1, 1, 0})
	wantTrio(t, "SumTrio", trio, ok, impl.Trio{Whole: 4, Rows: [][]int{even, even, even, odd, even, odd, odd, even}})
	trio, ok = impl.SumTrio([]int{0, 0, 0, 0, 0, 0, 0, 0})
	wantTrio(t, "SumTrio of zeros", trio, ok, impl.Trio{Whole: 4, Rows: [][]int{even, even, even, even, even, even, even, even}})
	trio, ok = impl.SumTrio([]int{1, 1, 1, 1, 1, 1, 1, 1})
	wantTrio(t, "SumTrio of ones", trio, ok, impl.Trio{Whole: 4, Rows: [][]int{odd, odd, odd, odd, odd, odd, odd, odd}})
}

func TestSumTrioOfAllLists(t *testing.T) {
	for _, odd := range allLists(8, 2) {
		wantSumTrio(t, odd)
		trio, _ := impl.SumTrio(odd)
		var agreements []int
		for _, n := range odd {
			agreements = append(agreements, 4-8*n)
		}
		got, ok := impl.TripleAgreements(trio)
		wantList(t, fmt.Sprintf("TripleAgreements(SumTrio(%v))", odd), got, ok, agreements...)
		quiet, ok := impl.IsQuietTrio(trio)
		wantReport(t, fmt.Sprintf("IsQuietTrio(SumTrio(%v))", odd), quiet, ok, true)
		for out := range 3 {
			pair, ok := impl.PairOf(trio, out)
			wantBox(t, fmt.Sprintf("PairOf(SumTrio(%v), %d)", odd, out), pair, ok, boxBy(2, 2, 4, func(int, int, int, int) int { return 1 }))
		}
	}
}

func TestSumTrioOfOtherLists(t *testing.T) {
	for _, odd := range badBits(8) {
		trio, ok := impl.SumTrio(odd)
		wantNoTrio(t, fmt.Sprintf("SumTrio(%v)", odd), trio, ok)
	}
}
