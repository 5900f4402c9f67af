package tests

import (
	"fmt"
	"math/rand"
	"slices"
	"testing"

	"loop.example/g01141/impl"
)

// letterAt is the bit i of the string with the place k.
func letterAt(k, i int) int {
	for range i {
		k /= 2
	}
	return k % 2
}

func countStrings(n int) int { return []int{1, 2, 4, 8, 16}[n] }

func allCodes(n int) [][]int { return allLists(countStrings(n), 2) }

// codeByHand has a message 1 for the strings for which a report is true.
func codeByHand(n int, report func(letters []int) bool) []int {
	code := make([]int, countStrings(n))
	for k := range code {
		var letters []int
		for i := range n {
			letters = append(letters, letterAt(k, i))
		}
		if report(letters) {
			code[k] = 1
		}
	}
	return code
}

// guessByHand compares the strings with a message that have each number.
func guessByHand(code []int, i, message int) int {
	zeros, ones := 0, 0
	for k, sent := range code {
		switch {
		case sent == message && letterAt(k, i) == 0:
			zeros++
		case sent == message:
			ones++
		}
	}
	if ones > zeros {
		return 1
	}
	return 0
}

func codeScoresByHand(n int, code []int) []int {
	scores := make([]int, n)
	for i := range scores {
		for k, message := range code {
			if guessByHand(code, i, message) == letterAt(k, i) {
				scores[i]++
			}
		}
	}
	return scores
}

// The question of a sender with two bits, the message, and the guess of a receiver, as the document spells them out.
func questionByHand(s, t int) int {
	if s+t == 2 {
		return 0
	}
	return s + t
}

func sentByHand(s, answer int) int {
	if answer == 0 {
		return s
	}
	return 1 - s
}

func guessedByHand(message, answer int) int {
	if answer == 0 {
		return message
	}
	return 1 - message
}

func boxCodeByHand(b impl.Box) []int {
	var list []int
	for k := range 4 {
		s, t := letterAt(k, 0), letterAt(k, 1)
		for i := range 2 {
			right := 0
			for a := range 2 {
				for c := range 2 {
					if guessedByHand(sentByHand(s, a), c) == []int{s, t}[i] {
						right += numberAt(b, questionByHand(s, t), i, a, c)
					}
				}
			}
			list = append(list, right)
		}
	}
	return list
}

// chainByHand goes over the answers a of all three Boxes to the sender, and c of two of them to the receiver. The Box of the other
// pair is asked nothing by the receiver, which is as if it were asked the question idle, and the answer were not looked at.
func chainByHand(b impl.Box, k, i, idle int) int {
	pair, place := 0, 0
	if i >= 2 {
		pair = 1
	}
	if i%2 != 0 {
		place = 1
	}
	right := 0
	for _, a := range allLists(3, 2) {
		one, two := sentByHand(letterAt(k, 0), a[0]), sentByHand(letterAt(k, 2), a[1])
		message := sentByHand(one, a[2])
		questions := []int{questionByHand(letterAt(k, 0), letterAt(k, 1)), questionByHand(letterAt(k, 2), letterAt(k, 3))}
		other := numberAt(b, questions[1-pair], idle, a[1-pair], 0) + numberAt(b, questions[1-pair], idle, a[1-pair], 1)
		for _, c := range allLists(2, 2) {
			guess := guessedByHand(guessedByHand(message, c[0]), c[1])
			if guess == letterAt(k, i) {
				right += numberAt(b, questionByHand(one, two), pair, a[2], c[0]) * numberAt(b, questions[pair], place, a[pair], c[1]) * other
			}
		}
	}
	return right
}

// someQuietForChain is any quiet Box that a chain takes, one of few plays, or one of equal sums with other Boxes.
func someQuietForChain(r *rand.Rand) impl.Box {
	for range 20 {
		if b := leastByHand(someQuietOfTwo(r)); b.Whole <= impl.MaxChainWhole {
			return b
		}
	}
	return anyQuietBox(r, 2, 2, 1+r.Intn([]int{5, 30, impl.MaxChainWhole}[r.Intn(3)]))
}

func wantPairs(t *testing.T, what string, got [][2]int, ok bool, want ...[2]int) {
	t.Helper()
	if !ok || !slices.Equal(got, want) {
		t.Fatalf("%s = %v, %v; want %v, true", what, got, ok, want)
	}
}

func wantNoPairs(t *testing.T, what string, got [][2]int, ok bool) {
	t.Helper()
	if ok || len(got) != 0 {
		t.Fatalf("%s = %v, %v; want no pairs, false", what, got, ok)
	}
}

func mustCodeTotal(t *testing.T, n int, code []int) int {
	t.Helper()
	total, ok := impl.CodeTotal(n, code)
	if !ok {
		t.Fatalf("CodeTotal(%d, %v) fails", n, code)
	}
	return total
}

func wantBoxCode(t *testing.T, b impl.Box, want ...int) {
	t.Helper()
	list, ok := impl.BoxCode(b)
	wantList(t, fmt.Sprintf("BoxCode(%v)", b), list, ok, want...)
}

func wantNoBoxCode(t *testing.T, b impl.Box) {
	t.Helper()
	list, ok := impl.BoxCode(b)
	wantNoList(t, fmt.Sprintf("BoxCode(%v)", b), list, ok)
}

func wantRight(t *testing.T, b impl.Box, k, i, want int) {
	t.Helper()
	right, ok := impl.ChainRight(b, k, i)
	wantNumber(t, fmt.Sprintf("ChainRight(%v, %d, %d)", b, k, i), right, ok, want)
}

func wantLeast(t *testing.T, b impl.Box, want int) {
	t.Helper()
	least, ok := impl.ChainLeast(b)
	wantNumber(t, fmt.Sprintf("ChainLeast(%v)", b), least, ok, want)
}

// wantNoChain tries all strings and bits.
func wantNoChain(t *testing.T, b impl.Box) {
	t.Helper()
	for k := range 16 {
		for i := range 4 {
			right, ok := impl.ChainRight(b, k, i)
			wantNoNumber(t, fmt.Sprintf("ChainRight(%v, %d, %d)", b, k, i), right, ok)
		}
	}
	least, ok := impl.ChainLeast(b)
	wantNoNumber(t, fmt.Sprintf("ChainLeast(%v)", b), least, ok)
}
