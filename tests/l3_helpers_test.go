package tests

import (
	"math/rand"
	"slices"

	"loop.example/g01141/impl"
)

// equalSums is the Box of two questions each in which the sum of both answers is odd exactly if both questions are 1.
func equalSums() impl.Box {
	return box(2, 2, 2, []int{1, 0, 0, 1}, []int{1, 0, 0, 1}, []int{1, 0, 0, 1}, []int{0, 1, 1, 0})
}

// sumPlace names a sum.
type sumPlace struct {
	first, second [2]int
	m             int
}

// placesOfSums has the places of all sums, in order.
func placesOfSums(x, y int) []sumPlace {
	var places []sumPlace
	for _, first := range [][2]int{{0, 1}, {0, 2}, {1, 2}} {
		for _, second := range [][2]int{{0, 1}, {0, 2}, {1, 2}} {
			for m := range 4 {
				if first[1] < x && second[1] < y {
					places = append(places, sumPlace{first, second, m})
				}
			}
		}
	}
	return places
}

func agreementAt(b impl.Box, x, y int) int {
	return numberAt(b, x, y, 0, 0) + numberAt(b, x, y, 1, 1) - numberAt(b, x, y, 0, 1) - numberAt(b, x, y, 1, 0)
}

func sumByHand(b impl.Box, p sumPlace) int {
	agreements := []int{
		agreementAt(b, p.first[0], p.second[0]), agreementAt(b, p.first[0], p.second[1]),
		agreementAt(b, p.first[1], p.second[0]), agreementAt(b, p.first[1], p.second[1]),
	}
	return agreements[0] + agreements[1] + agreements[2] + agreements[3] - 2*agreements[p.m]
}

func greatestSumByHand(b impl.Box) int {
	greatest := 0
	for _, p := range placesOfSums(b.X, b.Y) {
		greatest = max(greatest, sumByHand(b, p), -sumByHand(b, p))
	}
	return greatest
}

// quietBox has the numbers both for the answers 1 and 1, and the sums first and second for the answer 1 of each player.
func quietBox(whole int, first, second []int, both func(x, y int) int) impl.Box {
	return boxBy(len(first), len(second), whole, func(x, y, a, c int) int {
		n := both(x, y)
		return [4]int{whole - first[x] - second[y] + n, second[y] - n, first[x] - n, n}[2*a+c]
	})
}

// anyQuietBox can be each quiet Box with a Whole.
func anyQuietBox(r *rand.Rand, x, y, whole int) impl.Box {
	first, second := someNumbers(r, x, whole), someNumbers(r, y, whole)
	var both []int
	for _, a := range first {
		for _, b := range second {
			least := max(0, a+b-whole)
			both = append(both, least+r.Intn(min(a, b)-least+1))
		}
	}
	return quietBox(whole, first, second, func(i, j int) int { return both[i*y+j] })
}

func someNumbers(r *rand.Rand, size, most int) []int {
	list := make([]int, size)
	for i := range list {
		list[i] = r.Intn(most + 1)
	}
	return list
}

// allQuietBoxes has all of a size and with a Whole.
func allQuietBoxes(x, y, whole int) []impl.Box {
	var boxes []impl.Box
	for _, counts := range allLists(x+y, whole+1) {
		for _, both := range allLists(x*y, whole+1) {
			b := quietBox(whole, counts[:x], counts[x:], func(i, j int) int { return both[i*y+j] })
			if impl.IsBox(b) {
				boxes = append(boxes, b)
			}
		}
	}
	return boxes
}

func countPlays(x, y int) int { return len(allLists(x+y, 2)) }

// someShares have a sum, of few plays or of many.
func someShares(r *rand.Rand, x, y, sum int) []int {
	shares := make([]int, countPlays(x, y))
	most := []int{1, 3, 20, sum}[r.Intn(4)]
	for left := sum; left > 0; {
		part := 1 + r.Intn(min(left, most))
		shares[r.Intn(len(shares))] += part
		left -= part
	}
	return shares
}

func mixtureByHand(x, y int, shares []int) impl.Box {
	whole := 0
	for _, share := range shares {
		whole += share
	}
	plays := allLists(x+y, 2)
	return boxBy(x, y, whole, func(i, j, a, c int) int {
		n := 0
		for place, play := range plays {
			if play[i] == a && play[x+j] == c {
				n += shares[place]
			}
		}
		return n
	})
}

// tripleFunctional is that whose worth for each quiet Box with three questions each is the triple worth: in the first row are the
// sums for the answer 1 to the first question of each player, too, and in the second one those to the second one of the second.
func tripleFunctional() [][]int {
	return [][]int{
		{0, -2, -1, -2}, {0, -1, 0, 0}, {0, 0, 0, 1},
		{0, 0, 0, 1}, {0, 0, 0, 1}, {0, 0, 0, -1},
		{0, 0, 0, 1}, {0, 0, 0, -1}, {0, 0, 0, 0},
	}
}

// tripleByHand is the triple worth, as the document spells it out.
func tripleByHand(b impl.Box) int {
	n := func(x, y int) int { return numberAt(b, x, y, 1, 1) }
	a := func(x int) int { return numberAt(b, x, 0, 1, 0) + numberAt(b, x, 0, 1, 1) }
	c := func(y int) int { return numberAt(b, 0, y, 0, 1) + numberAt(b, 0, y, 1, 1) }
	return n(0, 0) + n(0, 1) + n(0, 2) + n(1, 0) + n(1, 1) - n(1, 2) + n(2, 0) - n(2, 1) - a(0) - 2*c(0) - c(1)
}

var orders = [][]int{{0, 1, 2}, {0, 2, 1}, {1, 0, 2}, {1, 2, 0}, {2, 0, 1}, {2, 1, 0}}

// turn tells how a Box becomes another form: the players swapped or not, then the questions in other orders, then some answers
// flipped.
type turn struct {
	swap          bool
	first, second []int
	flips         []int
}

func allTurns() []turn {
	var turns []turn
	for _, swap := range []bool{false, true} {
		for _, first := range orders {
			for _, second := range orders {
				for _, flips := range allLists(6, 2) {
					turns = append(turns, turn{swap, first, second, flips})
				}
			}
		}
	}
	return turns
}

func someTurn(r *rand.Rand) turn {
	return turn{r.Intn(2) == 0, orders[r.Intn(6)], orders[r.Intn(6)], someBits(r, 6)}
}

// turned is the form of a Box with three questions each, by the functions of chapter 2.
func turned(b impl.Box, k turn) impl.Box {
	if k.swap {
		b, _ = impl.SwapPlayers(b)
	}
	b, _ = impl.AskAgain(b, k.first, k.second)
	b, _ = impl.FlipAnswers(b, k.flips)
	return b
}

// turnedFunctional has the worth for a Box that the functional has for its form.
func turnedFunctional(f [][]int, k turn) [][]int {
	other := noFactors(9)
	for x := range 3 {
		for y := range 3 {
			for a := range 2 {
				for c := range 2 {
					question, answer := [2]int{k.first[x], k.second[y]}, [2]int{a ^ k.flips[x], c ^ k.flips[3+y]}
					if k.swap {
						slices.Reverse(question[:])
						slices.Reverse(answer[:])
					}
					other[3*question[0]+question[1]][2*answer[0]+answer[1]] = f[3*x+y][2*a+c]
				}
			}
		}
	}
	return other
}
