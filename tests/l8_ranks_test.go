package tests

import (
	"fmt"
	"math/rand"
	"testing"

	"loop.example/g01141/impl"
)

func wantRanks(t *testing.T, table [][]int, rank, odd int) {
	t.Helper()
	got, second, ok := impl.RanksOf(table)
	if !ok || got != rank || second != odd {
		t.Fatalf("RanksOf(%v) = %d, %d, %v; want %d, %d, true", table, got, second, ok, rank, odd)
	}
}

func wantCountRows(t *testing.T, table [][]int, want int) {
	t.Helper()
	count, ok := impl.CountRows(table)
	wantNumber(t, fmt.Sprintf("CountRows(%v)", table), count, ok, want)
}

func mustTurn(t *testing.T, table [][]int) [][]int {
	t.Helper()
	turned, ok := impl.TurnTask(table)
	if !ok {
		t.Fatalf("TurnTask(%v) fails", table)
	}
	return turned
}

func TestRanksOfTasksByHand(t *testing.T) {
	wantRanks(t, task("0"), 0, 0)
	wantRanks(t, task("1"), 1, 1)
	wantRanks(t, task("0000", "0000"), 0, 0)
	wantRanks(t, task("0110"), 1, 1)
	wantRanks(t, task("10", "01"), 2, 2)
	wantRanks(t, task("110", "011"), 2, 2)
	wantRanks(t, task("111", "111", "011"), 2, 2)
	// The third row is the sum of the others modulo 2 only.
	wantRanks(t, task("110", "011", "101"), 3, 2)
	wantRanks(t, task("1101", "0110", "1011"), 3, 2)
	wantRanks(t, task("1000", "0100", "0010", "0001"), 4, 4)
	wantRanks(t, task("0111", "1011", "1101", "1110"), 4, 4)
	wantRanks(t, task("1100", "1010", "0110", "0001"), 4, 3)
	// The first and the third row are as much as both others.
	wantRanks(t, task("1100", "0110", "0011", "1001"), 3, 3)
	wantRanks(t, task("1100", "1100", "0011", "0011"), 2, 2)
	wantRanks(t, evenTask(4, 4, 1), 1, 1)
	wantRanks(t, evenTask(4, 4, 0), 0, 0)
}

// Exchanging rows and columns leaves both ranks, and the need bounds them.
func TestRanksOfTasks(t *testing.T) {
	different := 0
	for _, table := range manyTasks(rand.New(rand.NewSource(159)), 1000) {
		rank, odd := rankByFractions(table), rankBySums(table)
		wantRanks(t, table, rank, odd)
		wantRanks(t, mustTurn(t, table), rank, odd)
		need, ok := impl.NeedOf(table)
		if !ok || odd > rank || rank > 1<<need {
			t.Fatalf("%v has the ranks %d and %d, and the need %d", table, rank, odd, need)
		}
		if odd < rank {
			different++
		}
	}
	if different < 20 {
		t.Errorf("both ranks differ %d times", different)
	}
}

func TestCountRows(t *testing.T) {
	wantCountRows(t, task("0"), 1)
	wantCountRows(t, task("0", "0", "0", "0"), 1)
	wantCountRows(t, task("0", "1", "0", "1"), 2)
	wantCountRows(t, task("10", "01", "10"), 2)
	wantCountRows(t, task("100", "010", "001", "010"), 3)
	wantCountRows(t, task("1111"), 1)
	wantCountRows(t, task("1110", "1111", "0111", "1101"), 4)
	for _, table := range manyTasks(rand.New(rand.NewSource(160)), 300) {
		texts := map[string]bool{}
		for _, row := range table {
			texts[fmt.Sprint(row)] = true
		}
		wantCountRows(t, table, len(texts))
	}
}

func TestTurnTaskByHand(t *testing.T) {
	for _, c := range [][2][][]int{
		{task("0"), task("0")},
		{task("10"), task("1", "0")},
		{task("100", "110"), task("11", "01", "00")},
		{task("0111", "0011", "0001"), task("000", "100", "110", "111")},
	} {
		turned, ok := impl.TurnTask(c[0])
		wantRows(t, fmt.Sprintf("TurnTask(%v)", c[0]), turned, ok, c[1]...)
		turned, ok = impl.TurnTask(c[1])
		wantRows(t, fmt.Sprintf("TurnTask(%v)", c[1]), turned, ok, c[0]...)
	}
}

// Turning twice leaves the task as it was, and the need, the covers and the lengths of the FoolingSets stay.
func TestTurnTask(t *testing.T) {
	for _, table := range manyTasks(rand.New(rand.NewSource(161)), 300) {
		turned := mustTurn(t, table)
		want := taskBy(len(table[0]), len(table), func(i, j int) int { return table[j][i] })
		wantRows(t, fmt.Sprintf("TurnTask(%v)", table), turned, true, want...)
		wantRows(t, "turned twice", mustTurn(t, turned), true, table...)
		need, ok := impl.NeedOf(table)
		if !ok {
			t.Fatalf("NeedOf(%v) fails", table)
		}
		wantNeed(t, turned, need)
		for bit := range 2 {
			count, _ := impl.CoverNumber(table, bit)
			wantCover(t, turned, bit, count)
			pairs, _ := impl.FoolingSet(table, bit)
			others, ok := impl.FoolingSet(turned, bit)
			if !ok || len(others) != len(pairs) {
				t.Fatalf("FoolingSet(%v, %d) = %v, %v, but %v for the other turn", turned, bit, others, ok, pairs)
			}
		}
	}
}
