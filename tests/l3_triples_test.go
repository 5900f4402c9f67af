package tests

import (
	"fmt"
	"math/rand"
	"testing"

	"loop.example/g01141/impl"
)

func checkTriple(t *testing.T, b impl.Box) {
	t.Helper()
	worth, ok := impl.TripleWorth(b)
	wantNumber(t, fmt.Sprintf("TripleWorth(%v)", b), worth, ok, tripleByHand(b))
}

// greatestByForms makes all forms of a Box.
func greatestByForms(b impl.Box) int {
	greatest := tripleByHand(b)
	for _, k := range allTurns() {
		greatest = max(greatest, tripleByHand(turned(b, k)))
	}
	return greatest
}

// triplesBeyond has the Whole 2, and the greatest triple worth there is.
func triplesBeyond() impl.Box {
	both := [][]int{{1, 1, 1}, {1, 1, 0}, {1, 0, 0}}
	return quietBox(2, []int{1, 1, 1}, []int{1, 1, 1}, func(x, y int) int { return both[x][y] })
}

func TestTriplesByHand(t *testing.T) {
	ones := mustPlayBox(t, 3, 3, []int{1, 1, 1, 1, 1, 1}, 7)
	worth, ok := impl.TripleWorth(ones)
	wantNumber(t, "TripleWorth of answers 1", worth, ok, 0)
	worth, ok = impl.TripleWorth(mustPlayBox(t, 3, 3, []int{0, 0, 0, 1, 1, 1}, 7))
	wantNumber(t, "TripleWorth of answers 0 and 1", worth, ok, -21)
	worth, ok = impl.TripleWorth(mustPlayBox(t, 3, 3, []int{0, 1, 1, 0, 1, 1}, 7))
	wantNumber(t, "TripleWorth of other answers", worth, ok, -14)
	worth, ok = impl.TripleWorth(triplesBeyond())
	wantNumber(t, "TripleWorth", worth, ok, 2)
	greatest, ok := impl.GreatestTriple(triplesBeyond())
	wantNumber(t, "GreatestTriple", greatest, ok, 2)
	// All forms of noise are noise, with a triple worth below 0.
	noise, ok := impl.NoiseBox(3, 3, 5)
	worth, fine := impl.TripleWorth(noise)
	wantNumber(t, "TripleWorth of noise", worth, ok && fine, -20)
	greatest, fine = impl.GreatestTriple(noise)
	wantNumber(t, "GreatestTriple of noise", greatest, ok && fine, -20)
}

func TestTripleWorths(t *testing.T) {
	r := rand.New(rand.NewSource(26))
	for range 2000 {
		b := anyQuietBox(r, 3, 3, 1+r.Intn(impl.MaxWhole))
		checkTriple(t, b)
		worth, ok := impl.WorthOf(tripleFunctional(), b)
		wantNumber(t, fmt.Sprintf("worth of the functional for %v", b), worth, ok, tripleByHand(b))
		checkTriple(t, mixtureByHand(3, 3, someShares(r, 3, 3, 1+r.Intn(6))))
	}
	for _, play := range allLists(6, 2) {
		checkTriple(t, mustPlayBox(t, 3, 3, play, 1))
	}
}

func TestGreatestTriples(t *testing.T) {
	r := rand.New(rand.NewSource(27))
	boxes := []impl.Box{triplesBeyond(), mustPlayBox(t, 3, 3, []int{0, 1, 1, 0, 1, 1}, 7)}
	for _, whole := range []int{1, 2, 3, 5, 20, 300, 1000} {
		boxes = append(boxes, anyQuietBox(r, 3, 3, whole), anyQuietBox(r, 3, 3, whole), mixtureByHand(3, 3, someShares(r, 3, 3, whole)))
	}
	for _, b := range boxes {
		greatest, ok := impl.GreatestTriple(b)
		wantNumber(t, fmt.Sprintf("GreatestTriple(%v)", b), greatest, ok, greatestByForms(b))
	}
}

// A form alone can have a triple worth above that of the Box, and each form has the same greatest one.
func TestGreatestTriplesOfForms(t *testing.T) {
	r := rand.New(rand.NewSource(28))
	for _, k := range allTurns() {
		greatest, ok := impl.GreatestTriple(turned(triplesBeyond(), k))
		wantNumber(t, fmt.Sprintf("GreatestTriple of the form %v", k), greatest, ok, 2)
	}
	for range 500 {
		b := anyQuietBox(r, 3, 3, 1+r.Intn(30))
		greatest, ok := impl.GreatestTriple(b)
		k := someTurn(r)
		other, fine := impl.GreatestTriple(turned(b, k))
		if !ok || !fine || greatest != other || greatest < tripleByHand(turned(b, k)) {
			t.Fatalf("GreatestTriple of %v = %d, and of its form %v %d", b, greatest, k, other)
		}
	}
}

func TestPlaysHaveNoTripleAbove0(t *testing.T) {
	for _, play := range allLists(6, 2) {
		for _, whole := range []int{1, 1000} {
			b := mustPlayBox(t, 3, 3, play, whole)
			greatest, ok := impl.GreatestTriple(b)
			wantNumber(t, fmt.Sprintf("GreatestTriple(%v)", b), greatest, ok, 0)
		}
	}
	for _, k := range allTurns() {
		f := turnedFunctional(tripleFunctional(), k)
		value, ok := impl.LocalValue(3, 3, f)
		wantNumber(t, fmt.Sprintf("LocalValue(3, 3, %v)", f), value, ok, 0)
	}
}

func wantNoTriple(t *testing.T, b impl.Box) {
	t.Helper()
	worth, ok := impl.TripleWorth(b)
	wantNoNumber(t, fmt.Sprintf("TripleWorth(%v)", b), worth, ok)
	worth, ok = impl.GreatestTriple(b)
	wantNoNumber(t, fmt.Sprintf("GreatestTriple(%v)", b), worth, ok)
}

func TestOtherBoxesHaveNoTriples(t *testing.T) {
	r := rand.New(rand.NewSource(29))
	for _, size := range allSizes() {
		if size == [2]int{3, 3} {
			continue
		}
		wantNoTriple(t, markedBox(size[0], size[1], 1000))
		for range 20 {
			wantNoTriple(t, anyQuietBox(r, size[0], size[1], 1+r.Intn(20)))
		}
	}
	wantNoTriple(t, markedBox(3, 3, 1000))
	for range 300 {
		if b := someBox(r, 3, 3); !isQuietByHand(b) {
			wantNoTriple(t, b)
		}
	}
	// One part in one row makes a Box loud.
	for place := range 9 {
		for from := range 4 {
			for to := range 4 {
				b := boxBy(3, 3, 8, func(int, int, int, int) int { return 2 })
				b.Rows[place][from]--
				b.Rows[place][to]++
				if from != to {
					wantNoTriple(t, b)
				}
			}
		}
	}
}
