package tests

import (
	"fmt"
	"math/rand"
	"slices"
	"testing"

	"loop.example/g01141/impl"
)

func signSumByHand(t impl.Trio) int {
	at := triplesByHand(t)
	return at[0] - at[3] - at[5] - at[6]
}

func groupSumByHand(t impl.Trio) int {
	at := triplesByHand(t)
	return at[0] + at[1] + at[2] + at[4] - at[3] - at[5] - at[6] - at[7]
}

func wantSignSum(t *testing.T, trio impl.Trio, want int) {
	t.Helper()
	sum, ok := impl.SignSum(trio)
	wantNumber(t, fmt.Sprintf("SignSum(%v)", trio), sum, ok, want)
}

func wantGroupSum(t *testing.T, trio impl.Trio, want int) {
	t.Helper()
	sum, ok := impl.GroupSum(trio)
	wantNumber(t, fmt.Sprintf("GroupSum(%v)", trio), sum, ok, want)
}

func wantTriples(t *testing.T, trio impl.Trio, want ...int) {
	t.Helper()
	agreements, ok := impl.TripleAgreements(trio)
	wantList(t, fmt.Sprintf("TripleAgreements(%v)", trio), agreements, ok, want...)
}

func checkTrioSums(t *testing.T, trio impl.Trio) {
	t.Helper()
	wantTriples(t, trio, triplesByHand(trio)...)
	wantSignSum(t, trio, signSumByHand(trio))
	wantGroupSum(t, trio, groupSumByHand(trio))
}

func wantTurned(t *testing.T, trio, want impl.Trio) {
	t.Helper()
	turned, ok := impl.TurnTrio(trio)
	wantTrio(t, fmt.Sprintf("TurnTrio(%v)", trio), turned, ok, want)
}

func mustTurnTrio(t *testing.T, trio impl.Trio) impl.Trio {
	t.Helper()
	turned, ok := impl.TurnTrio(trio)
	if !ok {
		t.Fatalf("TurnTrio(%v) fails", trio)
	}
	return turned
}

func TestTripleAgreementsByHand(t *testing.T) {
	for place, want := range []int{9, -9, -9, 9, -9, 9, 9, -9} {
		trio := impl.Trio{Whole: 9, Rows: slices.Repeat([][]int{answerRow(place, 9)}, 8)}
		wantTriples(t, trio, want, want, want, want, want, want, want, want)
	}
	trio := noiseTrio(2)
	trio.Rows[0] = []int{2, 1, 1, 4, 1, 4, 3, 0}
	trio.Rows[5] = []int{0, 1, 2, 0, 3, 0, 1, 9}
	trio.Rows[7] = []int{1, 0, 1, 0, 7, 0, 0, 7}
	wantTriples(t, trio, 10, 0, 0, 0, 0, -14, 0, -14)
	wantTriples(t, noiseTrio(1), 0, 0, 0, 0, 0, 0, 0, 0)
}

// Each triple agreement is 1 or another small number, and counts as often as the words of the document say.
func TestSumsOfOneRow(t *testing.T) {
	signs := []int{1, 0, 0, -1, 0, -1, -1, 0}
	groups := []int{1, 1, 1, -1, 1, -1, -1, -1}
	for place := range 8 {
		for _, agreement := range []int{8, -8, 6, -6, 2, -2} {
			agreements := make([]int, 8)
			agreements[place] = agreement
			trio := agreementTrio(8, agreements)
			wantTriples(t, trio, agreements...)
			wantSignSum(t, trio, signs[place]*agreement)
			wantGroupSum(t, trio, groups[place]*agreement)
		}
	}
}

func TestSumsOfAllSigns(t *testing.T) {
	for _, whole := range []int{1, 2, 7, impl.MaxWhole} {
		for _, bits := range allLists(8, 2) {
			var agreements []int
			for _, bit := range bits {
				agreements = append(agreements, whole-2*whole*bit)
			}
			trio := agreementTrio(whole, agreements)
			wantTriples(t, trio, agreements...)
			checkTrioSums(t, trio)
		}
	}
	wantSignSum(t, agreementTrio(impl.MaxWhole, []int{1000, 0, 0, -1000, 0, -1000, -1000, 0}), 4*impl.MaxWhole)
	wantGroupSum(t, agreementTrio(impl.MaxWhole, []int{1000, 1000, 1000, -1000, 1000, -1000, -1000, -1000}), 8*impl.MaxWhole)
	wantGroupSum(t, agreementTrio(impl.MaxWhole, []int{-1000, -1000, -1000, 1000, -1000, 1000, 1000, 1000}), -8*impl.MaxWhole)
}

func TestSumsOfAnyTrios(t *testing.T) {
	r := rand.New(rand.NewSource(1103))
	checkTrioSums(t, markedTrio())
	for range 3000 {
		checkTrioSums(t, someTrio(r))
		checkTrioSums(t, someQuietTrio(r))
		checkTrioSums(t, groupOfWhole(r, 1+r.Intn(impl.MaxWhole)))
	}
}

func TestSignSumOfSumTrios(t *testing.T) {
	trio, _ := impl.SumTrio([]int{0, 0, 0, 1, 0, 1, 1, 0})
	wantSignSum(t, trio, 4*trio.Whole)
	reached := 0
	for _, odd := range allLists(8, 2) {
		trio, _ := impl.SumTrio(odd)
		checkTrioSums(t, trio)
		if signSumByHand(trio) == 4*trio.Whole {
			reached++
		}
	}
	// The other four rows do not count.
	if reached != 16 {
		t.Errorf("%d SumTrios have the sign sum of 4 times the Whole", reached)
	}
}

func TestGroupSumsOfAllGroupPlays(t *testing.T) {
	sums := map[int]int{}
	allGroupPlays(func(alone int, own, joint []int) {
		trio, ok := impl.GroupTrio(alone, own, joint, 5)
		sum, summed := impl.GroupSum(trio)
		if !ok || !summed || sum > 20 || sum < -20 || sum != groupSumByHand(trio) {
			t.Fatalf("GroupSum(GroupTrio(%d, %v, %v, 5)) = %d, %v", alone, own, joint, sum, summed)
		}
		sums[sum]++
	})
	if sums[20] < 100 || sums[-20] < 100 || sums[0] < 100 {
		t.Errorf("group sums: %v", sums)
	}
}

// With any players alone, mixtures keep the group bound, as those of plays keep that of the sign sum.
func TestSumsOfMixtures(t *testing.T) {
	r := rand.New(rand.NewSource(1104))
	groups, signs := 0, 0
	for range 1000 {
		group, play := impl.Trio{}, impl.Trio{}
		for times := range 1 + r.Intn(6) {
			one := groupTrioWith(r, 4)
			two := trioWithSigns(r, 2)
			if r.Intn(5) == 0 {
				one, two = groupOfWhole(r, 1), trioOfByHand(someBits(r, 6), 1)
			}
			one, two = trioByTimes(one, 1+r.Intn(9)), trioByTimes(two, 1+r.Intn(9))
			if times == 0 {
				group, play = one, two
				continue
			}
			group, _ = impl.MixTrios(group, one)
			play, _ = impl.MixTrios(play, two)
		}
		groupSum, ok := impl.GroupSum(group)
		if !ok || max(groupSum, -groupSum) > 4*group.Whole {
			t.Fatalf("GroupSum(%v) = %d, %v", group, groupSum, ok)
		}
		signSum, ok := impl.SignSum(play)
		if !ok || max(signSum, -signSum) > 2*play.Whole {
			t.Fatalf("SignSum(%v) = %d, %v", play, signSum, ok)
		}
		if groupSum == 4*group.Whole {
			groups++
		}
		if signSum == 2*play.Whole {
			signs++
		}
	}
	if groups < 200 || signs < 200 {
		t.Errorf("%d group sums and %d sign sums are the greatest ones", groups, signs)
	}
}

// groupTrioWith has a group sum.
func groupTrioWith(r *rand.Rand, sum int) impl.Trio {
	for {
		if trio := groupOfWhole(r, 1); groupSumByHand(trio) == sum {
			return trio
		}
	}
}

// trioWithSigns has a sign sum, and no chance.
func trioWithSigns(r *rand.Rand, sum int) impl.Trio {
	for {
		if trio := trioOfByHand(someBits(r, 6), 1); signSumByHand(trio) == sum {
			return trio
		}
	}
}

func TestTurnTrioByHand(t *testing.T) {
	// Behind a turn, the first player is the third one of before, and its question and answer count most.
	trio := noiseTrio(2)
	trio.Rows[1], trio.Rows[6] = []int{0, 1, 2, 3, 4, 0, 0, 6}, []int{0, 0, 0, 0, 0, 1, 15, 0}
	want := noiseTrio(2)
	want.Rows[4], want.Rows[3] = []int{0, 2, 4, 0, 1, 3, 0, 6}, []int{0, 0, 0, 15, 0, 0, 1, 0}
	wantTurned(t, trio, want)
	wantTurned(t, noiseTrio(7), noiseTrio(7))
}

func TestTurnTrioOfAllPlays(t *testing.T) {
	for _, play := range allLists(6, 2) {
		wantTurned(t, trioOfByHand(play, 3), trioOfByHand(slices.Concat(play[4:], play[:4]), 3))
	}
	// The others of a group play keep their questions, but the less one of them may be the greater one now.
	joint := []int{0, 0, 0, 1, 1, 1, 1, 0}
	exchanged := []int{0, 0, 1, 1, 1, 0, 0, 1}
	wantTurned(t, groupTrioByHand(2, []int{0, 1}, joint, 2), groupTrioByHand(0, []int{0, 1}, joint, 2))
	wantTurned(t, groupTrioByHand(0, []int{0, 1}, joint, 2), groupTrioByHand(1, []int{0, 1}, exchanged, 2))
	wantTurned(t, groupTrioByHand(1, []int{0, 1}, joint, 2), groupTrioByHand(2, []int{0, 1}, exchanged, 2))
	for _, odd := range allLists(8, 2) {
		turned := []int{odd[0], odd[2], odd[4], odd[6], odd[1], odd[3], odd[5], odd[7]}
		wantTurned(t, sumTrioByHand(odd), sumTrioByHand(turned))
	}
}

// checkTurns also tells whether the Trio is another one behind a turn.
func checkTurns(t *testing.T, trio impl.Trio) bool {
	t.Helper()
	wantTurned(t, trio, turnedByHand(trio))
	once := mustTurnTrio(t, trio)
	twice := mustTurnTrio(t, once)
	wantTurned(t, twice, trio)
	for _, turned := range []impl.Trio{once, twice} {
		wantSignSum(t, turned, signSumByHand(trio))
		wantGroupSum(t, turned, groupSumByHand(trio))
		wantQuietTrio(t, turned, isQuietTrioByHand(trio))
	}
	return !sameTrio(once, trio)
}

func TestThreeTurnsLeaveATrioAsItIs(t *testing.T) {
	r := rand.New(rand.NewSource(1105))
	others := 0
	for _, trio := range []impl.Trio{markedTrio(), mustTurnTrio(t, markedTrio()), noiseTrio(125)} {
		checkTurns(t, trio)
	}
	for range 1500 {
		for _, trio := range []impl.Trio{someTrio(r), someQuietTrio(r), groupOfWhole(r, 1+r.Intn(impl.MaxWhole))} {
			if checkTurns(t, trio) {
				others++
			}
		}
	}
	if others < 4000 {
		t.Errorf("%d Trios are others behind a turn", others)
	}
}

// Turns carry the pairs with them; those of which the order changes become what SwapPlayers makes of them.
func TestPairsOfTurnedTrios(t *testing.T) {
	r := rand.New(rand.NewSource(1106))
	for range 1500 {
		trio := someQuietTrio(r)
		turned := mustTurnTrio(t, trio)
		wantPair(t, turned, 0, pairByHand(trio, 2, 0))
		for out, before := range map[int]int{1: 0, 2: 1} {
			want, ok := impl.SwapPlayers(pairByHand(trio, before, 0))
			pair, paired := impl.PairOf(turned, out)
			wantBox(t, fmt.Sprintf("PairOf(%v, %d)", turned, out), pair, ok && paired, want)
		}
	}
}
