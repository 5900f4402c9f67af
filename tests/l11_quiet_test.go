package tests

import (
	"fmt"
	"math/rand"
	"slices"
	"testing"

	"loop.example/g01141/impl"
)

func wantQuietTrio(t *testing.T, trio impl.Trio, want bool) {
	t.Helper()
	quiet, ok := impl.IsQuietTrio(trio)
	wantReport(t, fmt.Sprintf("IsQuietTrio(%v)", trio), quiet, ok, want)
}

// pairByHand is the Box of the players other than out, who is asked a question.
func pairByHand(t impl.Trio, out, question int) impl.Box {
	others := othersOf(out)
	return boxBy(2, 2, t.Whole, func(x, y, a, c int) int {
		q, answers := make([]int, 3), make([]int, 3)
		q[others[0]], q[others[1]] = x, y
		answers[others[0]], answers[others[1]] = a, c
		return bothByHand(t, out, question, q, answers)
	})
}

func wantPair(t *testing.T, trio impl.Trio, out int, want impl.Box) {
	t.Helper()
	pair, ok := impl.PairOf(trio, out)
	wantBox(t, fmt.Sprintf("PairOf(%v, %d)", trio, out), pair, ok, want)
}

func wantNoPair(t *testing.T, trio impl.Trio, out int) {
	t.Helper()
	pair, ok := impl.PairOf(trio, out)
	wantNoBox(t, fmt.Sprintf("PairOf(%v, %d)", trio, out), pair, ok)
}

// checkQuietTrio compares IsQuietTrio and PairOf with the definitions, and tells whether the Trio is quiet.
func checkQuietTrio(t *testing.T, trio impl.Trio) bool {
	t.Helper()
	quiet := isQuietTrioByHand(trio)
	wantQuietTrio(t, trio, quiet)
	for out := range 3 {
		if !quiet {
			wantNoPair(t, trio, out)
			continue
		}
		// Whatever the player out is asked, the others have the same Box.
		wantPair(t, trio, out, pairByHand(trio, out, 0))
		wantPair(t, trio, out, pairByHand(trio, out, 1))
	}
	return quiet
}

// greatestOfPairs has the greatest of the EightSums of each PairOf.
func greatestOfPairs(t *testing.T, trio impl.Trio) []int {
	t.Helper()
	var greatest []int
	for out := range 3 {
		pair, _ := impl.PairOf(trio, out)
		sums, ok := impl.EightSums(pair)
		if !ok || !slices.Equal(sums, eightSumsByHand(pair)) {
			t.Fatalf("EightSums(PairOf(%v, %d)) = %v, %v", trio, out, sums, ok)
		}
		greatest = append(greatest, slices.Max(sums))
	}
	return greatest
}

// checkShared tells whether two pairs of a quiet Trio share as much as they can.
func checkShared(t *testing.T, trio impl.Trio) bool {
	t.Helper()
	greatest := greatestOfPairs(t, trio)
	// The greatest sums of two pairs, of all three less the least one, are the greatest together.
	together := sumOf(greatest) - slices.Min(greatest)
	if together > 4*trio.Whole {
		t.Fatalf("two pairs of %v have the sums %v", trio, greatest)
	}
	return together == 4*trio.Whole
}

func TestIsQuietTrioByHand(t *testing.T) {
	zero, one := answerRow(0, 1), answerRow(1, 1)
	// The third player answers with 1 to the question 1, and then also if the first player, or the second one, is asked 1.
	wantQuietTrio(t, impl.Trio{Whole: 1, Rows: [][]int{zero, one, zero, one, zero, one, zero, one}}, true)
	wantQuietTrio(t, impl.Trio{Whole: 1, Rows: [][]int{zero, one, zero, one, one, one, one, one}}, false)
	wantQuietTrio(t, impl.Trio{Whole: 1, Rows: [][]int{zero, one, one, one, zero, one, one, one}}, false)
	wantQuietTrio(t, impl.Trio{Whole: 1, Rows: [][]int{zero, zero, zero, zero, zero, zero, zero, zero}}, true)
	wantQuietTrio(t, impl.Trio{Whole: 1, Rows: [][]int{zero, zero, zero, zero, zero, zero, zero, one}}, false)
	wantQuietTrio(t, impl.Trio{Whole: 1, Rows: [][]int{one, zero, zero, zero, zero, zero, zero, zero}}, false)
	wantQuietTrio(t, noiseTrio(1), true)
	wantQuietTrio(t, noiseTrio(impl.MaxWhole/8), true)
	wantQuietTrio(t, markedTrio(), false)
}

func TestPairOfByHand(t *testing.T) {
	// All three have the same answer, or the third one has the other one: so do the pairs with the third one.
	same, other := []int{1, 0, 0, 0, 0, 0, 0, 1}, []int{0, 1, 0, 0, 0, 0, 1, 0}
	trio := impl.Trio{Whole: 2, Rows: [][]int{same, other, same, other, same, other, same, other}}
	even, odd := []int{1, 0, 0, 1}, []int{0, 1, 1, 0}
	wantPair(t, trio, 0, box(2, 2, 2, even, odd, even, odd))
	wantPair(t, trio, 1, box(2, 2, 2, even, odd, even, odd))
	wantPair(t, trio, 2, box(2, 2, 2, even, even, even, even))
	for out := range 3 {
		wantPair(t, noiseTrio(3), out, boxBy(2, 2, 24, func(int, int, int, int) int { return 6 }))
	}
}

func TestPairOfTriosWithoutChance(t *testing.T) {
	for _, play := range allLists(6, 2) {
		for _, whole := range []int{1, 6, impl.MaxWhole} {
			trio, ok := impl.TrioOf(play, whole)
			if !ok || !checkQuietTrio(t, trio) || !checkShared(t, trio) {
				t.Fatalf("TrioOf(%v, %d) = %v, %v", play, whole, trio, ok)
			}
			wantPair(t, trio, 0, playBoxByHand(2, 2, play[2:], whole))
			wantPair(t, trio, 1, playBoxByHand(2, 2, slices.Concat(play[:2], play[4:]), whole))
			wantPair(t, trio, 2, playBoxByHand(2, 2, play[:4], whole))
		}
	}
}

func TestPairOfOtherPlayers(t *testing.T) {
	for _, out := range append(extremeInts(), -3, -2, -1, 3, 4, 7, 8) {
		wantNoPair(t, noiseTrio(1), out)
		wantNoPair(t, trioOfByHand([]int{0, 1, 1, 0, 0, 1}, 1), out)
		wantNoPair(t, markedTrio(), out)
		wantNoPair(t, impl.Trio{}, out)
	}
}

// mixturesOfTwo counts the Trios that are mixtures of two trio plays, perhaps the same.
func mixturesOfTwo() int {
	found := map[string]bool{}
	for _, one := range allLists(6, 2) {
		for _, two := range allLists(6, 2) {
			found[fmt.Sprint(joinedTrios(trioOfByHand(one, 1), trioOfByHand(two, 1)))] = true
		}
	}
	return len(found)
}

// With the Whole 1, only Trios without chance are quiet; with 2, so are their mixtures, and those in which two players have an
// equal-sum box, one of 8, and the third one, one of 3, has one of 4 answers to both questions.
func TestAllSmallQuietTrios(t *testing.T) {
	shared, most := 0, 0
	for whole, count := range map[int]int{1: 64, 2: mixturesOfTwo() + 8*3*4} {
		trios := allQuietTrios(whole)
		if len(trios) != count {
			t.Errorf("%d quiet Trios with the Whole %d", len(trios), whole)
		}
		for _, trio := range trios {
			if !checkQuietTrio(t, trio) {
				t.Fatalf("not quiet: %v", trio)
			}
			if checkShared(t, trio) {
				shared++
			}
			if slices.Max(greatestOfPairs(t, trio)) == 4*whole {
				most++
			}
		}
	}
	if shared < 100 || most != 8*3*4 {
		t.Errorf("%d share all, %d have equal sums", shared, most)
	}
}

// signsOf is 1 where the sum of the answers of some players is even, and -1 where it is odd.
func signsOf(players []int, a []int) int {
	sum := 0
	for _, player := range players {
		sum += a[player]
	}
	return 1 - 2*(sum%2)
}

// A change of one row by the sum of the answers of some players is seen by all that are not among them.
func TestOneLoudRow(t *testing.T) {
	for _, players := range [][]int{{0}, {1}, {2}, {0, 1}, {0, 2}, {1, 2}, {0, 1, 2}} {
		for _, row := range triplesOfBits {
			for _, size := range []int{1, -1, 5, -5} {
				trio := trioBy(40, func(q, a []int) int {
					if slices.Equal(q, row) {
						return 5 + size*signsOf(players, a)
					}
					return 5
				})
				for player := range 3 {
					if isQuietForByHand(trio, player) != slices.Contains(players, player) {
						t.Fatalf("%v and the player %d", trio, player)
					}
				}
				if checkQuietTrio(t, trio) != (len(players) == 3) {
					t.Fatalf("by the sum of %v: %v", players, trio)
				}
			}
		}
	}
}

// changedTrio takes one from a number of a row, and adds it to another one of this row.
func changedTrio(r *rand.Rand, trio impl.Trio) impl.Trio {
	trio = copyTrio(trio)
	row := trio.Rows[r.Intn(8)]
	for {
		if from, to := r.Intn(8), r.Intn(8); row[from] > 0 && from != to {
			row[from]--
			row[to]++
			return trio
		}
	}
}

func TestQuietTriosOfAnyKind(t *testing.T) {
	r := rand.New(rand.NewSource(1102))
	shared, loud := 0, 0
	for range 2000 {
		trio := someQuietTrio(r)
		if !checkQuietTrio(t, trio) {
			t.Fatalf("not quiet: %v", trio)
		}
		if checkShared(t, trio) {
			shared++
		}
		if !checkQuietTrio(t, changedTrio(r, trio)) {
			loud++
		}
		checkQuietTrio(t, someTrio(r))
		checkQuietTrio(t, joinedTrios(trioByTimes(groupOfWhole(r, 1), 1+r.Intn(3)), groupOfWhole(r, 1)))
	}
	if shared < 100 || loud != 2000 {
		t.Errorf("%d share all, %d changed ones are loud", shared, loud)
	}
}

// Trios that are loud for one player alone have no pair, not even without this player.
func TestTriosThatAreLoudForOnePlayer(t *testing.T) {
	for player := range 3 {
		for _, whole := range []int{1, 2, impl.MaxWhole} {
			trio := certainTrio(whole, func(q []int) []int { return changedBit(changedBit([]int{0, 0, 0}, (player+1)%3, q[player]), player, 1) })
			for other := range 3 {
				if isQuietForByHand(trio, other) != (other != player) {
					t.Fatalf("%v and the player %d", trio, other)
				}
			}
			if checkQuietTrio(t, trio) {
				t.Errorf("quiet: %v", trio)
			}
		}
	}
}
