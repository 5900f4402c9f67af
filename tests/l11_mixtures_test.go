package tests

import (
	"fmt"
	"math/rand"
	"slices"
	"testing"

	"loop.example/g01141/impl"
)

func wantMixedTrios(t *testing.T, a, b, want impl.Trio) {
	t.Helper()
	mixed, ok := impl.MixTrios(a, b)
	wantTrio(t, fmt.Sprintf("MixTrios(%v, %v)", a, b), mixed, ok, want)
}

func wantNoMixedTrios(t *testing.T, a, b impl.Trio) {
	t.Helper()
	mixed, ok := impl.MixTrios(a, b)
	wantNoTrio(t, fmt.Sprintf("MixTrios(%v, %v)", a, b), mixed, ok)
}

// checkMixedTrios compares the mixture with the definition, and tells whether there is one.
func checkMixedTrios(t *testing.T, a, b impl.Trio) bool {
	t.Helper()
	if a.Whole+b.Whole > impl.MaxWhole {
		wantNoMixedTrios(t, a, b)
		return false
	}
	wantMixedTrios(t, a, b, joinedTrios(a, b))
	return true
}

func wantAdded(t *testing.T, b impl.Box, chances []int, most int, want impl.Trio) {
	t.Helper()
	trio, ok := impl.AddThird(b, chances, most)
	wantTrio(t, fmt.Sprintf("AddThird(%v, %v, %d)", b, chances, most), trio, ok, want)
}

func wantNoneAdded(t *testing.T, b impl.Box, chances []int, most int) {
	t.Helper()
	trio, ok := impl.AddThird(b, chances, most)
	wantNoTrio(t, fmt.Sprintf("AddThird(%v, %v, %d)", b, chances, most), trio, ok)
}

// checkAdded compares the Trio with the definition, and tells whether there is one.
func checkAdded(t *testing.T, b impl.Box, chances []int, most int) bool {
	t.Helper()
	if b.Whole*most > impl.MaxWhole {
		wantNoneAdded(t, b, chances, most)
		return false
	}
	wantAdded(t, b, chances, most, addedByHand(b, chances, most))
	return true
}

func TestMixTriosByHand(t *testing.T) {
	one, two := answerRow(0, 1), []int{0, 2, 0, 0, 0, 0, 0, 1}
	a := impl.Trio{Whole: 1, Rows: slices.Repeat([][]int{one}, 8)}
	b := impl.Trio{Whole: 3, Rows: slices.Repeat([][]int{two}, 8)}
	b.Rows[3] = []int{1, 1, 1, 0, 0, 0, 0, 0}
	want := impl.Trio{Whole: 4, Rows: slices.Repeat([][]int{{1, 2, 0, 0, 0, 0, 0, 1}}, 8)}
	want.Rows[3] = []int{2, 1, 1, 0, 0, 0, 0, 0}
	wantMixedTrios(t, a, b, want)
	wantMixedTrios(t, b, a, want)
	wantMixedTrios(t, a, a, trioByTimes(a, 2))
}

func TestMixTriosOfAnyKind(t *testing.T) {
	r := rand.New(rand.NewSource(1107))
	some, none := 0, 0
	for range 3000 {
		if checkMixedTrios(t, someTrio(r), someTrio(r)) {
			some++
		} else {
			none++
		}
		checkMixedTrios(t, groupOfWhole(r, 1+r.Intn(500)), someQuietTrio(r))
	}
	if some < 1000 || none < 500 {
		t.Errorf("%d mixtures, and %d are none", some, none)
	}
	checkMixedTrios(t, markedTrio(), markedTrio())
	checkMixedTrios(t, noiseTrio(5), noiseTrio(120))
}

func TestWholesOfMixedTrios(t *testing.T) {
	r := rand.New(rand.NewSource(1108))
	for whole := 1; whole <= impl.MaxWhole; whole++ {
		one := trioOfWhole(r, whole)
		checkMixedTrios(t, one, trioOfWhole(r, impl.MaxWhole+1-whole))
		checkMixedTrios(t, trioOfWhole(r, impl.MaxWhole), one)
		checkMixedTrios(t, one, trioOfWhole(r, impl.MaxWhole))
		if whole < impl.MaxWhole && !checkMixedTrios(t, one, trioOfWhole(r, impl.MaxWhole-whole)) {
			t.Errorf("no mixture of the Wholes %d and %d", whole, impl.MaxWhole-whole)
		}
	}
}

func TestMixturesOfQuietTriosAreQuiet(t *testing.T) {
	r := rand.New(rand.NewSource(1109))
	for range 2000 {
		a, b := someQuietTrio(r), someQuietTrio(r)
		mixed, ok := impl.MixTrios(a, b)
		wantTrio(t, fmt.Sprintf("MixTrios(%v, %v)", a, b), mixed, ok, joinedTrios(a, b))
		wantQuietTrio(t, mixed, true)
		checkShared(t, mixed)
		for out := range 3 {
			wantPair(t, mixed, out, joined(pairByHand(a, out, 0), pairByHand(b, out, 0)))
		}
		// With one that is loud, the mixture is so, too, as the quiet one cannot make up for it.
		changed := changedTrio(r, a)
		loud, ok := impl.MixTrios(changed, b)
		if quiet, valid := impl.IsQuietTrio(loud); !ok || !valid || quiet {
			t.Fatalf("MixTrios(%v, %v) = %v, %v, quiet %v", changed, b, loud, ok, quiet)
		}
	}
	// Two Trios that are loud may mix to a quiet one.
	one := groupTrioByHand(2, []int{0, 0}, []int{0, 0, 1, 0, 0, 0, 1, 0}, 1)
	two := groupTrioByHand(2, []int{0, 0}, []int{1, 0, 0, 0, 1, 0, 0, 0}, 1)
	wantQuietTrio(t, one, false)
	wantQuietTrio(t, two, false)
	wantQuietTrio(t, joinedTrios(one, two), true)
}

func TestAddThirdByHand(t *testing.T) {
	b := box(2, 2, 3, []int{1, 0, 0, 2}, []int{0, 1, 1, 1}, []int{3, 0, 0, 0}, []int{0, 3, 0, 0})
	want := impl.Trio{Whole: 15, Rows: [][]int{
		{3, 2, 0, 0, 0, 0, 6, 4}, {1, 4, 0, 0, 0, 0, 2, 8}, {0, 0, 3, 2, 3, 2, 3, 2}, {0, 0, 1, 4, 1, 4, 1, 4},
		{9, 6, 0, 0, 0, 0, 0, 0}, {3, 12, 0, 0, 0, 0, 0, 0}, {0, 0, 9, 6, 0, 0, 0, 0}, {0, 0, 3, 12, 0, 0, 0, 0},
	}}
	wantAdded(t, b, []int{2, 4}, 5, want)
}

// The third player may know nothing, and always answer 0 or always 1, or what it is asked.
func TestAddThirdWithoutChance(t *testing.T) {
	for _, play := range allLists(6, 2) {
		for _, wholes := range [][2]int{{1, 1}, {1, 7}, {7, 1}, {1, impl.MaxWhole}, {impl.MaxWhole, 1}, {40, 25}} {
			chances := []int{wholes[1] * play[4], wholes[1] * play[5]}
			wantAdded(t, playBoxByHand(2, 2, play[:4], wholes[0]), chances, wholes[1], trioOfByHand(play, wholes[0]*wholes[1]))
		}
	}
	even := boxBy(2, 2, 4, func(int, int, int, int) int { return 1 })
	for part := 1; part <= impl.MaxWhole/8; part++ {
		wantAdded(t, even, []int{part, part}, 2*part, noiseTrio(part))
	}
}

func TestAddThirdOfAnyBoxes(t *testing.T) {
	r := rand.New(rand.NewSource(1110))
	some, none := 0, 0
	for range 4000 {
		most := []int{1, 2, 3, 1 + r.Intn(40), 1 + r.Intn(impl.MaxWhole)}[r.Intn(5)]
		b := []impl.Box{someBox(r, 2, 2), someQuietOfTwo(r), quietOfAtMost(r, 31), boxOfWhole(r, 1+r.Intn(31)), loudOfTwo()[r.Intn(10)]}[r.Intn(5)]
		chances := [][]int{someNumbers(r, 2, most), {0, 0}, {most, most}, {0, most}, {most, 0}}[r.Intn(5)]
		if checkAdded(t, b, chances, most) {
			some++
		} else {
			none++
		}
	}
	if some < 1000 || none < 500 {
		t.Errorf("%d Trios, and %d are none", some, none)
	}
}

func TestWholesOfAddedTrios(t *testing.T) {
	r := rand.New(rand.NewSource(1111))
	for _, whole := range []int{1, 999, impl.MaxWhole, impl.MaxWhole + 1, impl.MaxWhole + 2, impl.MaxWhole * impl.MaxWhole} {
		for _, wholes := range wholesUpTo(whole) {
			if checkAdded(t, boxOfWhole(r, wholes[0]), someNumbers(r, 2, wholes[1]), wholes[1]) != (whole <= impl.MaxWhole) {
				t.Errorf("a Trio with the Whole %d", whole)
			}
		}
	}
	for most := 1; most <= 2*impl.MaxWhole; most++ {
		checkAdded(t, boxOfWhole(r, 1), someNumbers(r, 2, most), most)
		checkAdded(t, boxOfWhole(r, 2), someNumbers(r, 2, most), most)
	}
}

func TestAddThirdOfOtherNumbers(t *testing.T) {
	for _, b := range []impl.Box{playBoxByHand(2, 2, []int{0, 1, 1, 0}, 1), equalSums(), markedBox(2, 2, 100)} {
		for _, most := range append(extremeInts(), -3, -1, 0, impl.MaxWhole+1, 1<<60, 1<<63-8) {
			wantNoneAdded(t, b, []int{0, 0}, most)
			wantNoneAdded(t, b, []int{most, most}, most)
			wantNoneAdded(t, b, []int{0, most}, most)
			wantNoneAdded(t, b, nil, most)
		}
		for _, bad := range append(extremeInts(), -1, -3, 4, 5, 6, 100) {
			wantNoneAdded(t, b, []int{bad, 0}, 3)
			wantNoneAdded(t, b, []int{3, bad}, 3)
			wantNoneAdded(t, b, []int{bad, bad}, 3)
		}
		for _, list := range [][]int{nil, {}, {1}, {1, 1, 1}, {0, 0, 0}, make([]int, 8), make([]int, 100)} {
			wantNoneAdded(t, b, list, 3)
			wantNoneAdded(t, b, list, 0)
		}
	}
}

// With these numbers, which are far beyond MaxWhole, the products wrap around to the numbers of a Trio.
func TestAddThirdWithProductsThatWrapAround(t *testing.T) {
	for most, whole := range map[int]int{6148914691236517206: 3, 1<<62 + 1: 4, 1<<61 + 3: 8, 7378697629483820647: 5, 1<<60 + 1: 16} {
		if product := most * whole; product < 1 || product > impl.MaxWhole {
			t.Errorf("%d times %d is %d", most, whole, product)
		}
		for _, chances := range [][]int{{0, 0}, {0, most}, {most, 0}, {most, most}} {
			wantNoneAdded(t, playBoxByHand(2, 2, []int{0, 1, 1, 0}, whole), chances, most)
		}
	}
}

func TestAddThirdLeavesTheBoxOfTheOthers(t *testing.T) {
	r := rand.New(rand.NewSource(1112))
	for range 3000 {
		most := 1 + r.Intn(20)
		b, chances := quietOfAtMost(r, impl.MaxWhole/most), someNumbers(r, 2, most)
		trio, ok := impl.AddThird(b, chances, most)
		wantTrio(t, "AddThird", trio, ok, addedByHand(b, chances, most))
		if !checkQuietTrio(t, trio) {
			t.Fatalf("AddThird(%v, %v, %d) is loud", b, chances, most)
		}
		pair, paired := impl.PairOf(trio, 2)
		alike, ok := impl.AreAlike(pair, b)
		wantReport(t, fmt.Sprintf("%v and %v", pair, b), alike, ok && paired, true)
		checkShared(t, trio)
		checkThirdKnowsNothing(t, trio, b, chances, most)
	}
	for _, b := range loudOfTwo() {
		trio, ok := impl.AddThird(b, []int{1, 2}, 3)
		wantTrio(t, "AddThird", trio, ok, addedByHand(b, []int{1, 2}, 3))
		wantQuietTrio(t, trio, false)
	}
}

// Each of both others and the third player answer without knowing of each other.
func checkThirdKnowsNothing(t *testing.T, trio impl.Trio, b impl.Box, chances []int, most int) {
	t.Helper()
	counts, ok := impl.AnswerCounts(b)
	if !ok {
		t.Fatalf("AnswerCounts(%v) fails", b)
	}
	for out := range 2 {
		first := counts[2*(1-out):][:2]
		wantPair(t, trio, out, boxBy(2, 2, trio.Whole, func(x, z, a, c int) int {
			one, two := first[x], chances[z]
			if a == 0 {
				one = b.Whole - one
			}
			if c == 0 {
				two = most - two
			}
			return one * two
		}))
	}
}
