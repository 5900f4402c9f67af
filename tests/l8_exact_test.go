package tests

import (
	"math/big"
	"slices"

	"loop.example/g01141/impl"
)

// taskNeeds has by its size and number the need of each task, from all that can be said.
type taskNeeds map[[2]int]map[int]int

// needsBySaying goes from the numbers that Talks of at most one bit, and then two, can tell, as the binary digits of tasks; a Talk
// of one bit more has after each bit one of these, or an end. Three bits tell everything: two for the row, and one for the number.
func needsBySaying() taskNeeds {
	needs := taskNeeds{}
	for _, size := range taskSizes() {
		all := 1<<(size[0]*size[1]) - 1
		least := map[int]int{0: 0, all: 0}
		for bits := 1; bits <= 2; bits++ {
			var known []int
			for number := range least {
				known = append(known, number)
			}
			for _, heard := range bitsToHear(size[0], size[1]) {
				for _, zero := range known {
					for _, one := range known {
						told := one&heard | zero&^heard
						if _, before := least[told]; !before {
							least[told] = bits
						}
					}
				}
			}
		}
		needs[size] = least
	}
	return needs
}

// bitsToHear has, for all that either player can say, the digits of the places at which the bit is 1.
func bitsToHear(rows, columns int) []int {
	var heard []int
	for _, list := range allLists(rows, 2) {
		heard = append(heard, numberOfTask(taskBy(rows, columns, func(i, _ int) int { return list[i] })))
	}
	for _, list := range allLists(columns, 2) {
		heard = append(heard, numberOfTask(taskBy(rows, columns, func(_, j int) int { return list[j] })))
	}
	return heard
}

func (n taskNeeds) of(t [][]int) int {
	if need, few := n[[2]int{len(t), len(t[0])}][numberOfTask(t)]; few {
		return need
	}
	return 3
}

// splitByHand tries all lists of the first player, and then those of the second one.
func (n taskNeeds) splitByHand(t [][]int) (int, []int) {
	rows, columns := eventsFrom(0, len(t)), eventsFrom(0, len(t[0]))
	for speaker, places := range [][]int{rows, columns} {
		for _, list := range allLists(len(places), 2) {
			if slices.Max(list) == slices.Min(list) {
				continue
			}
			needed := 0
			for bit := range 2 {
				sides := [][]int{rows, columns}
				sides[speaker] = placesBy(list, bit)
				needed = max(needed, n.of(partOfTask(t, sides[0], sides[1])))
			}
			if needed+1 == n.of(t) {
				return speaker, list
			}
		}
	}
	return -1, nil
}

// talkByHand adds the steps for the rows and columns that are left, and returns what leads to them.
func (n taskNeeds) talkByHand(p *impl.Talk, t [][]int, sides [2][]int) int {
	left := partOfTask(t, sides[0], sides[1])
	if isPlainTask(left) {
		return -1 - left[0][0]
	}
	step := len(p.Speaker)
	speaker, list := n.splitByHand(left)
	says := make([]int, []int{len(t), len(t[0])}[speaker])
	for at, bit := range list {
		says[sides[speaker][at]] = bit
	}
	p.Speaker, p.Says, p.Next = append(p.Speaker, speaker), append(p.Says, says), append(p.Next, [2]int{})
	for bit := range 2 {
		part := sides
		part[speaker] = nil
		for _, at := range placesBy(list, bit) {
			part[speaker] = append(part[speaker], sides[speaker][at])
		}
		next := n.talkByHand(p, t, part)
		p.Next[step][bit] = next
	}
	return step
}

// isFoolingByHand looks at any two of the pairs.
func isFoolingByHand(t [][]int, bit int, pairs [][2]int) bool {
	for at, p := range pairs {
		if t[p[0]][p[1]] != bit {
			return false
		}
		for _, q := range pairs[:at] {
			if t[p[0]][q[1]] == bit && t[q[0]][p[1]] == bit {
				return false
			}
		}
	}
	return true
}

// pairsAt are those of the places of a task, counted row by row.
func pairsAt(places []int, columns int) [][2]int {
	pairs := make([][2]int, 0, len(places))
	for _, place := range places {
		pairs = append(pairs, [2]int{place / columns, place % columns})
	}
	return pairs
}

// foolingByHand goes over lists of places, by their length and then in order, and takes the first one of the longest. Each part of
// such a list is one, too, so that no list is longer by more than one pair than all before it.
func foolingByHand(t [][]int, bit int, lists [][]int) [][2]int {
	var longest [][2]int
	for _, places := range lists {
		if len(places) > len(longest)+1 {
			break
		}
		pairs := pairsAt(places, len(t[0]))
		if len(pairs) > len(longest) && isFoolingByHand(t, bit, pairs) {
			longest = pairs
		}
	}
	return longest
}

// coverByHand adds one plain rectangle after another to all that can be had with fewer of them.
func coverByHand(t [][]int, bit int) int {
	columns := len(t[0])
	var rectangles []int
	for _, rows := range allPlaces(len(t))[1:] {
		for _, places := range allPlaces(columns)[1:] {
			if isPlainByHand(t, rows, places) && t[rows[0]][places[0]] == bit {
				digits := 0
				for _, i := range rows {
					digits += digitsOf(places) << (i * columns)
				}
				rectangles = append(rectangles, digits)
			}
		}
	}
	wanted := numberOfTask(t)
	if bit == 0 {
		wanted ^= 1<<(len(t)*columns) - 1
	}
	count := 0
	for had := map[int]bool{0: true}; !had[wanted]; count++ {
		more := map[int]bool{}
		for digits := range had {
			for _, rectangle := range rectangles {
				more[digits|rectangle] = true
			}
		}
		had = more
	}
	return count
}

// rankByFractions takes one column after another out of the rows.
func rankByFractions(t [][]int) int {
	a, rank := fractions(t), 0
	for column := range t[0] {
		first := slices.IndexFunc(a[rank:], func(row []*big.Rat) bool { return row[column].Sign() != 0 })
		if first < 0 {
			continue
		}
		a[rank], a[rank+first] = a[rank+first], a[rank]
		for _, row := range a[rank+1:] {
			factor := new(big.Rat).Quo(row[column], a[rank][column])
			for j := range row {
				row[j] = new(big.Rat).Sub(row[j], new(big.Rat).Mul(factor, a[rank][j]))
			}
		}
		rank++
		if rank == len(a) {
			break
		}
	}
	return rank
}

// rankBySums counts the sums, modulo 2, of some of the rows; there are 2 to the power of the rank.
func rankBySums(t [][]int) int {
	sums := map[int]bool{}
	for _, places := range allPlaces(len(t)) {
		sum := 0
		for _, i := range places {
			sum ^= digitsOf(placesBy(t[i], 1))
		}
		sums[sum] = true
	}
	rank := 0
	for 1<<rank < len(sums) {
		rank++
	}
	return rank
}

// talkValueByHand tries all that the first player can tell and answer, and the second one for each question and bit.
func talkValueByHand(g impl.Game) int {
	value := 0
	seconds := allLists(2*g.Y, 2)
	for _, told := range allLists(g.X, 2) {
		for _, first := range allLists(g.X, 2) {
			for _, second := range seconds {
				score := 0
				for x := range g.X {
					for y := range g.Y {
						if winsAt(g, x, y, first[x], second[2*y+told[x]]) {
							score += weightAt(g, x, y)
						}
					}
				}
				value = max(value, score)
			}
		}
	}
	return value
}
