package tests

import (
	"fmt"
	"math/rand"
	"testing"

	"loop.example/g01141/impl"
)

func checkWitness(t *testing.T, b impl.Box, f [][]int) bool {
	t.Helper()
	value, _ := bestByHand(b.X, b.Y, f)
	want := worthByHand(f, b) > b.Whole*value
	is, ok := impl.IsWitness(b, f)
	wantReport(t, fmt.Sprintf("IsWitness(%v, %v)", b, f), is, ok, want)
	return want
}

func wantNoWitness(t *testing.T, b impl.Box, f [][]int) {
	t.Helper()
	is, ok := impl.IsWitness(b, f)
	wantReport(t, fmt.Sprintf("IsWitness(%v, %v)", b, f), is, ok, false)
}

// A loud Box can have a witness, too: here the first player answers what the second one is asked.
func TestWitnessesByHand(t *testing.T) {
	loud := box(1, 2, 5, []int{5, 0, 0, 0}, []int{0, 0, 5, 0})
	if !checkWitness(t, loud, [][]int{{1, 1, 0, 0}, {0, 0, 1, 1}}) || checkWitness(t, loud, [][]int{{1, 1, 0, 0}, {1, 1, 0, 0}}) {
		t.Errorf("witnesses of %v", loud)
	}
	sum := sumFunctionalByHand(2, 2, sumPlace{[2]int{0, 1}, [2]int{0, 1}, 3})
	if !checkWitness(t, equalSums(), sum) || checkWitness(t, equalSums(), opposite(sum)) {
		t.Errorf("witnesses of %v", equalSums())
	}
	// Nothing tells more than all the others do if the worths of all plays are the same.
	for _, factor := range []int{0, 1, -1, impl.MaxFactor, -impl.MaxFactor} {
		f := [][]int{{factor, factor, factor, factor}, {0, 0, 0, 0}, {0, 0, 0, 0}, {factor, factor, factor, factor}}
		if checkWitness(t, equalSums(), f) {
			t.Errorf("%v is a witness", f)
		}
	}
}

// With the same factors, a single part more or less decides.
func TestWitnessesAtTheBorder(t *testing.T) {
	f := [][]int{{99, -99, -99, 99}, {99, -99, -99, 99}, {99, -99, -99, 99}, {-99, 99, 99, -99}}
	for _, c := range []struct {
		scale, minus int
		want         bool
	}{{1, 0, true}, {1, 1, false}, {1, 2, false}, {10, 9, true}, {10, 10, false}, {300, 299, true}, {300, 300, false}, {333, 332, true}, {333, 333, false}} {
		b := mustMix(t, boxByTimes(equalSums(), c.scale), mustPlayBox(t, 2, 2, []int{0, 0, 0, 0}, 1))
		if c.minus > 0 {
			// The sum of this play is -2.
			b = mustMix(t, b, mustPlayBox(t, 2, 2, []int{0, 1, 1, 1}, c.minus))
		}
		if checkWitness(t, b, f) != c.want || checkLocal(t, b) == c.want {
			t.Errorf("with %v, IsWitness(%v) is not %v", c, b, c.want)
		}
	}
}

func TestWitnesses(t *testing.T) {
	r := rand.New(rand.NewSource(37))
	is := 0
	for range 1500 {
		size := allSizes()[r.Intn(9)]
		x, y := size[0], size[1]
		for _, b := range []impl.Box{someBox(r, x, y), anyQuietBox(r, x, y, 1+r.Intn(20)), someStrictBox(r, x, y)} {
			for _, f := range [][][]int{someFunctional(r, x, y), smallFunctional(r, x, y), b.Rows} {
				if b.Whole <= impl.MaxFactor && checkWitness(t, b, f) {
					is++
				}
			}
		}
	}
	if is < 100 {
		t.Errorf("only %d functionals were witnesses", is)
	}
}

func TestNoMixtureHasAWitness(t *testing.T) {
	r := rand.New(rand.NewSource(38))
	for _, size := range allSizes() {
		x, y := size[0], size[1]
		for range 100 {
			shares := someShares(r, x, y, []int{1, 2, 1 + r.Intn(impl.MaxWhole), impl.MaxWhole}[r.Intn(4)])
			b := mixtureByHand(x, y, shares)
			for range 5 {
				wantNoWitness(t, b, someFunctional(r, x, y))
				wantNoWitness(t, b, smallFunctional(r, x, y))
			}
			for _, p := range placesOfSums(x, y) {
				f, ok := impl.SumFunctional(x, y, p.first, p.second, p.m)
				if !ok {
					t.Fatalf("SumFunctional(%d, %d, %v) fails", x, y, p)
				}
				wantNoWitness(t, b, f)
				wantNoWitness(t, b, opposite(f))
			}
			if x == 3 && y == 3 {
				wantNoWitness(t, b, turnedFunctional(tripleFunctional(), someTurn(r)))
			}
		}
	}
}

// A mixture of the best plays has the greatest worth that a mixture can have, which is still none beyond.
func TestNoMixtureOfBestPlaysHasAWitness(t *testing.T) {
	r := rand.New(rand.NewSource(39))
	for range 1000 {
		size := allSizes()[r.Intn(9)]
		x, y := size[0], size[1]
		f := [][][]int{someFunctional(r, x, y), smallFunctional(r, x, y)}[r.Intn(2)]
		value, best := bestByHand(x, y, f)
		b := addPlays(t, r, mustPlayBox(t, x, y, best[0], 1), best, r.Intn(999))
		if worth := worthByHand(f, b); worth != value*b.Whole {
			t.Fatalf("the worth of %v for %v is %d", f, b, worth)
		}
		wantNoWitness(t, b, f)
	}
}

func wantNotAsked(t *testing.T, b impl.Box, f [][]int) {
	t.Helper()
	is, ok := impl.IsWitness(b, f)
	wantNoReport(t, fmt.Sprintf("IsWitness(%v, %v)", b, f), is, ok)
}

func TestFlawedFunctionalsAreNoWitness(t *testing.T) {
	for _, size := range allSizes() {
		x, y := size[0], size[1]
		for _, b := range []impl.Box{markedBox(x, y, 1000), playBoxByHand(x, y, make([]int, x+y), 1)} {
			for _, f := range flawedFunctionals(x, y) {
				wantNotAsked(t, b, f)
			}
			for _, other := range allSizes() {
				if f := noFactors(other[0] * other[1]); len(f) != x*y {
					wantNotAsked(t, b, f)
				}
			}
		}
	}
}
