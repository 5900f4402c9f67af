package tests

import (
	"math/rand"
	"slices"

	"loop.example/g01141/impl"
)

// oddByHand reports whether the sum of the answers to x and y is odd in the equal-sum box k.
func oddByHand(k, x, y int) bool {
	p, q, r := k/4, k/2%2, k%2
	return (x*y+p*x+q*y+r)%2 == 1
}

func sumBoxByHand(k int) impl.Box {
	return boxBy(2, 2, 2, func(x, y, a, c int) int {
		if (a+c)%2 == 1 == oddByHand(k, x, y) {
			return 1
		}
		return 0
	})
}

func extremesByHand() []impl.Box {
	var boxes []impl.Box
	for _, play := range allLists(4, 2) {
		boxes = append(boxes, playBoxByHand(2, 2, play, 2))
	}
	for k := range impl.SumKinds {
		boxes = append(boxes, sumBoxByHand(k))
	}
	return boxes
}

func eightSumsByHand(b impl.Box) []int {
	sums := make([]int, impl.SumKinds)
	for k := range sums {
		for x := range 2 {
			for y := range 2 {
				if oddByHand(k, x, y) {
					sums[k] -= agreementAt(b, x, y)
				} else {
					sums[k] += agreementAt(b, x, y)
				}
			}
		}
	}
	return sums
}

func partByHand(b impl.Box) (k, share int) {
	sums := eightSumsByHand(b)
	for other, sum := range sums {
		if sum > sums[k] {
			k = other
		}
	}
	// Each part that is taken away makes the sum less by 2.
	for left := sums[k]; left > 2*b.Whole; left -= 2 {
		share++
	}
	return k, share
}

// joined has the sums of all numbers of two Boxes, whether this is a Box or not.
func joined(a, b impl.Box) impl.Box {
	return boxBy(a.X, a.Y, a.Whole+b.Whole, func(x, y, i, j int) int { return numberAt(a, x, y, i, j) + numberAt(b, x, y, i, j) })
}

// without has the numbers of a Box less those of another one.
func without(a, b impl.Box) impl.Box { return joined(a, boxByTimes(b, -1)) }

func areAlikeByHand(a, b impl.Box) bool {
	return sameRows(boxByTimes(a, b.Whole).Rows, boxByTimes(b, a.Whole).Rows)
}

func isExtremeByHand(b impl.Box) bool {
	return slices.ContainsFunc(extremesByHand(), func(e impl.Box) bool { return areAlikeByHand(b, e) })
}

// playsWithSum are all plays with the k-th sum 2, or -2, times the Whole.
func playsWithSum(k, sum int) [][]int {
	var plays [][]int
	for _, play := range allLists(4, 2) {
		if eightSumsByHand(playBoxByHand(2, 2, play, 1))[k] == sum {
			plays = append(plays, play)
		}
	}
	return plays
}

// beyondBox has k as its part, with the share 2 * times: all plays in it have the greatest k-th sum that a play can have.
func beyondBox(r *rand.Rand, k, times, plays int) impl.Box {
	b := boxByTimes(sumBoxByHand(k), times)
	list := playsWithSum(k, 2)
	for plays > 0 {
		part := 1 + r.Intn(plays)
		b = joined(b, playBoxByHand(2, 2, list[r.Intn(len(list))], part))
		plays -= part
	}
	return b
}

// someQuietOfTwo is any quiet Box, one of few plays, one of equal sums with other Boxes, or one alike with an extreme Box.
func someQuietOfTwo(r *rand.Rand) impl.Box {
	switch r.Intn(5) {
	case 0:
		return someQuietBox(r, 2, 2)
	case 1:
		return anyQuietBox(r, 2, 2, 1+r.Intn([]int{4, 20, 500, impl.MaxWhole}[r.Intn(4)]))
	case 2:
		return beyondBox(r, r.Intn(impl.SumKinds), 1+r.Intn([]int{3, 100, 250}[r.Intn(3)]), r.Intn([]int{3, 50, 500}[r.Intn(3)]))
	case 3:
		e := extremesByHand()[r.Intn(impl.ExtremeKinds)]
		return boxByTimes(e, 1+r.Intn([]int{3, 500}[r.Intn(2)]))
	}
	one, two := extremesByHand()[r.Intn(impl.ExtremeKinds)], extremesByHand()[r.Intn(impl.ExtremeKinds)]
	return joined(boxByTimes(one, 1+r.Intn(20)), boxByTimes(two, 1+r.Intn(20)))
}

// loudOfTwo are Boxes each of which is loud for one player, or for both.
func loudOfTwo() []impl.Box {
	even, one, two := []int{1, 1, 1, 1}, []int{0, 2, 0, 2}, []int{0, 0, 2, 2}
	loud := []impl.Box{
		box(2, 2, 1, []int{1, 0, 0, 0}, []int{1, 0, 0, 0}, []int{1, 0, 0, 0}, []int{0, 1, 0, 0}),
		box(2, 2, 1, []int{1, 0, 0, 0}, []int{1, 0, 0, 0}, []int{1, 0, 0, 0}, []int{0, 0, 1, 0}),
		markedBox(2, 2, 100),
	}
	for place := range 4 {
		for _, row := range [][]int{one, two, {2, 0, 2, 0}, {2, 2, 0, 0}, {4, 0, 0, 0}} {
			b := box(2, 2, 4, even, even, even, even)
			b.Rows[place] = row
			loud = append(loud, copyBox(b))
		}
	}
	return loud
}

// badKinds are no numbers of so many kinds.
func badKinds(kinds int) []int {
	return append(extremeInts(), -1, -2, -kinds, kinds, kinds+1, 2*kinds, 100, -100)
}
