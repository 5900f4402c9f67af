package tests

import (
	"math/rand"
	"slices"
	"testing"

	"loop.example/g01141/impl"
)

// triplesOfBits has the questions, or the answers, of all three players at each place.
var triplesOfBits = allLists(3, 2)

// numberOfTrio is that for the answers a to the questions q.
func numberOfTrio(t impl.Trio, q, a []int) int {
	return t.Rows[4*q[0]+2*q[1]+q[2]][4*a[0]+2*a[1]+a[2]]
}

// trioBy makes a Trio of numbers that are told by questions and answers.
func trioBy(whole int, number func(q, a []int) int) impl.Trio {
	t := impl.Trio{Whole: whole}
	for _, q := range triplesOfBits {
		var row []int
		for _, a := range triplesOfBits {
			row = append(row, number(q, a))
		}
		t.Rows = append(t.Rows, row)
	}
	return t
}

// certainTrio has one triple of answers to all questions.
func certainTrio(whole int, answers func(q []int) []int) impl.Trio {
	return trioBy(whole, func(q, a []int) int {
		if slices.Equal(answers(q), a) {
			return whole
		}
		return 0
	})
}

func trioOfByHand(play []int, whole int) impl.Trio {
	return certainTrio(whole, func(q []int) []int { return []int{play[q[0]], play[2+q[1]], play[4+q[2]]} })
}

func groupTrioByHand(alone int, own, joint []int, whole int) impl.Trio {
	return certainTrio(whole, func(q []int) []int {
		switch alone {
		case 0:
			at := 2 * (2*q[1] + q[2])
			return []int{own[q[0]], joint[at], joint[at+1]}
		case 1:
			at := 2 * (2*q[0] + q[2])
			return []int{joint[at], own[q[1]], joint[at+1]}
		}
		at := 2 * (2*q[0] + q[1])
		return []int{joint[at], joint[at+1], own[q[2]]}
	})
}

func isOdd(bits []int) bool { return sumOf(bits)%2 == 1 }

func sumTrioByHand(odd []int) impl.Trio {
	return trioBy(4, func(q, a []int) int {
		if isOdd(a) == (odd[4*q[0]+2*q[1]+q[2]] == 1) {
			return 1
		}
		return 0
	})
}

// noiseTrio has the same number at all places.
func noiseTrio(part int) impl.Trio {
	return trioBy(8*part, func(_, _ []int) int { return part })
}

// markedTrio has another number at each place, so that places can be told apart.
func markedTrio() impl.Trio {
	t := impl.Trio{Whole: impl.MaxWhole}
	for row := range 8 {
		var numbers []int
		for place := range 7 {
			numbers = append(numbers, 1+8*row+place)
		}
		t.Rows = append(t.Rows, append(numbers, t.Whole-sumOf(numbers)))
	}
	return t
}

// joinedTrios has the sums of all numbers of two Trios, whether this is a Trio or not.
func joinedTrios(t, u impl.Trio) impl.Trio {
	return trioBy(t.Whole+u.Whole, func(q, a []int) int { return numberOfTrio(t, q, a) + numberOfTrio(u, q, a) })
}

func trioByTimes(t impl.Trio, k int) impl.Trio {
	return trioBy(k*t.Whole, func(q, a []int) int { return k * numberOfTrio(t, q, a) })
}

// turnedByHand asks the third player of t first, then the first one, and then the second one.
func turnedByHand(t impl.Trio) impl.Trio {
	return trioBy(t.Whole, func(q, a []int) int {
		return numberOfTrio(t, []int{q[1], q[2], q[0]}, []int{a[1], a[2], a[0]})
	})
}

func copyTrio(t impl.Trio) impl.Trio {
	t.Rows = copyRows(t.Rows)
	return t
}

func sameTrio(t, u impl.Trio) bool { return t.Whole == u.Whole && sameRows(t.Rows, u.Rows) }

func isZeroTrio(t impl.Trio) bool { return t.Whole == 0 && len(t.Rows) == 0 }

func wantTrio(t *testing.T, what string, got impl.Trio, ok bool, want impl.Trio) {
	t.Helper()
	if !ok || !sameTrio(got, want) || !impl.IsTrio(got) {
		t.Fatalf("%s = %v, %v; want %v, true", what, got, ok, want)
	}
}

func wantNoTrio(t *testing.T, what string, got impl.Trio, ok bool) {
	t.Helper()
	if ok || !isZeroTrio(got) {
		t.Fatalf("%s = %v, %v; want no Trio, false", what, got, ok)
	}
}

// changedBit is a copy of three bits with another one for a player.
func changedBit(bits []int, player, bit int) []int {
	changed := slices.Clone(bits)
	changed[player] = bit
	return changed
}

// bothByHand is the sum of the numbers for both answers of a player to a question.
func bothByHand(t impl.Trio, player, question int, q, a []int) int {
	q = changedBit(q, player, question)
	return numberOfTrio(t, q, changedBit(a, player, 0)) + numberOfTrio(t, q, changedBit(a, player, 1))
}

// isQuietForByHand goes over all questions and answers of the other players.
func isQuietForByHand(t impl.Trio, player int) bool {
	for _, q := range triplesOfBits {
		for _, a := range triplesOfBits {
			if bothByHand(t, player, 0, q, a) != bothByHand(t, player, 1, q, a) {
				return false
			}
		}
	}
	return true
}

func isQuietTrioByHand(t impl.Trio) bool {
	return isQuietForByHand(t, 0) && isQuietForByHand(t, 1) && isQuietForByHand(t, 2)
}

func triplesByHand(t impl.Trio) []int {
	var agreements []int
	for _, q := range triplesOfBits {
		agreement := 0
		for _, a := range triplesOfBits {
			if isOdd(a) {
				agreement -= numberOfTrio(t, q, a)
			} else {
				agreement += numberOfTrio(t, q, a)
			}
		}
		agreements = append(agreements, agreement)
	}
	return agreements
}

// agreementTrio has the triple agreement of each row as told, of numbers that are as even as they can be.
func agreementTrio(whole int, agreements []int) impl.Trio {
	t := impl.Trio{Whole: whole}
	for _, agreement := range agreements {
		row := make([]int, 8)
		for i := range (whole + agreement) / 2 {
			row[[]int{0, 3, 5, 6}[i%4]]++
		}
		for i := range (whole - agreement) / 2 {
			row[[]int{1, 2, 4, 7}[i%4]]++
		}
		t.Rows = append(t.Rows, row)
	}
	return t
}

// someNumbersOf has so many numbers of at least 0 with a sum, in few places or in many.
func someNumbersOf(r *rand.Rand, size, sum int) []int {
	list := make([]int, size)
	most := []int{1, 3, 20, sum}[r.Intn(4)]
	for left := sum; left > 0; {
		part := 1 + r.Intn(min(left, most))
		list[r.Intn(size)] += part
		left -= part
	}
	return list
}

func trioOfWhole(r *rand.Rand, whole int) impl.Trio {
	t := impl.Trio{Whole: whole}
	for range 8 {
		t.Rows = append(t.Rows, someNumbersOf(r, 8, whole))
	}
	return t
}

func someTrio(r *rand.Rand) impl.Trio {
	return trioOfWhole(r, []int{1, 2, 3, 4, 8, 40, 100, 999, impl.MaxWhole, 1 + r.Intn(impl.MaxWhole)}[r.Intn(10)])
}

func groupOfWhole(r *rand.Rand, whole int) impl.Trio {
	return groupTrioByHand(r.Intn(3), someBits(r, 2), someBits(r, 8), whole)
}

// apartTrio has the players of a quiet Box with the Whole 4, and a third one, in any order.
func apartTrio(r *rand.Rand) impl.Trio {
	b := anyQuietBox(r, 2, 2, 4)
	if r.Intn(2) == 0 {
		b = boxByTimes(sumBoxByHand(r.Intn(impl.SumKinds)), 2)
	}
	most := 1 + r.Intn(3)
	t := addedByHand(b, someNumbers(r, 2, most), most)
	for range r.Intn(3) {
		t = turnedByHand(t)
	}
	return t
}

// addedByHand need not be a Trio, as its Whole may be too great.
func addedByHand(b impl.Box, chances []int, most int) impl.Trio {
	return trioBy(b.Whole*most, func(q, a []int) int {
		third := chances[q[2]]
		if a[2] == 0 {
			third = most - third
		}
		return numberAt(b, q[0], q[1], a[0], a[1]) * third
	})
}

// someQuietTrio is one without chance, one with sums, one of a Box and a third player, or a mixture of such Trios.
func someQuietTrio(r *rand.Rand) impl.Trio {
	t := []impl.Trio{trioOfByHand(someBits(r, 6), 1+r.Intn(20)), sumTrioByHand(someBits(r, 8)), apartTrio(r), noiseTrio(1)}[r.Intn(4)]
	t = trioByTimes(t, 1+r.Intn(4))
	for range r.Intn(5) {
		t = joinedTrios(t, []impl.Trio{trioOfByHand(someBits(r, 6), 1+r.Intn(5)), sumTrioByHand(someBits(r, 8)), apartTrio(r)}[r.Intn(3)])
	}
	return t
}

// allQuietTrios has all with a Whole. A row is passed over as soon as one before it does not fit.
func allQuietTrios(whole int) []impl.Trio {
	var found []impl.Trio
	rows := allListsOfSum(8, whole)
	var grow func(t impl.Trio)
	grow = func(t impl.Trio) {
		place := len(t.Rows)
		if place == 8 {
			found = append(found, copyTrio(t))
			return
		}
		for _, row := range rows {
			longer := impl.Trio{Whole: whole, Rows: append(t.Rows[:place:place], row)}
			if lastRowFits(longer) {
				grow(longer)
			}
		}
	}
	grow(impl.Trio{Whole: whole})
	return found
}

// lastRowFits compares the last row with those before it in which one player alone is asked something else.
func lastRowFits(t impl.Trio) bool {
	place := len(t.Rows) - 1
	q := triplesOfBits[place]
	for player := range 3 {
		if q[player] == 0 {
			continue
		}
		for _, a := range triplesOfBits {
			if bothByHand(t, player, 0, q, a) != bothByHand(t, player, 1, q, a) {
				return false
			}
		}
	}
	return true
}

// allListsOfSum has all lists of so many numbers of at least 0 with a sum.
func allListsOfSum(size, sum int) [][]int {
	if size == 1 {
		return [][]int{{sum}}
	}
	var lists [][]int
	for first := range sum + 1 {
		for _, rest := range allListsOfSum(size-1, sum-first) {
			lists = append(lists, append([]int{first}, rest...))
		}
	}
	return lists
}
