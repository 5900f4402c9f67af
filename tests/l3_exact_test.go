package tests

import (
	"slices"

	"loop.example/g01141/impl"
)

// isLocalByShares reports whether a quiet Box is alike a mixture of some shares, by the definition alone: it looks for numbers of
// at least 0 for all plays that add up to the Whole, to the sums for the answer 1 and to the numbers for the answers 1 and 1. This
// is the first phase of the simplex method, in integers: all entries of the table are over one denominator, and the least
// places are taken, so that it ends.
func isLocalByShares(b impl.Box) bool {
	table, basis := startTable(b)
	for denominator := 1; ; {
		costs := table[len(table)-1]
		last := len(costs) - 1
		column := slices.IndexFunc(costs[:last], func(n int) bool { return n > 0 })
		if column < 0 {
			return costs[last] == 0
		}
		row := leavingRow(table, basis, column)
		pivot(table, row, column, denominator)
		basis[row], denominator = column, table[row][column]
	}
}

// startTable has a row for each sum that is to be reached, and one with what all of them still lack; behind the columns of the
// plays is that of the Box. A basis beyond the plays stands for what a row lacks.
func startTable(b impl.Box) (table [][]int, basis []int) {
	plays := allLists(b.X+b.Y, 2)
	table = make([][]int, 1+b.X+b.Y+b.X*b.Y)
	for _, play := range plays {
		addColumn(table, 1, play[:b.X], play[b.X:], func(x, y int) int { return play[x] * play[b.X+y] })
	}
	counts, _ := impl.AnswerCounts(b)
	addColumn(table, b.Whole, counts[:b.X], counts[b.X:], func(x, y int) int { return numberAt(b, x, y, 1, 1) })
	costs := make([]int, len(plays)+1)
	for i, row := range table {
		basis = append(basis, len(plays)+i)
		for j, n := range row {
			costs[j] += n
		}
	}
	return append(table, costs), basis
}

func addColumn(table [][]int, whole int, first, second []int, both func(x, y int) int) {
	column := slices.Concat([]int{whole}, first, second)
	for x := range first {
		for y := range second {
			column = append(column, both(x, y))
		}
	}
	for i, n := range column {
		table[i] = append(table[i], n)
	}
}

// leavingRow has the least quotient, and of these the least basis.
func leavingRow(table [][]int, basis []int, column int) int {
	leaving, last := -1, len(table[0])-1
	for i, row := range table[:len(basis)] {
		if row[column] <= 0 {
			continue
		}
		if leaving < 0 {
			leaving = i
			continue
		}
		difference := row[last]*table[leaving][column] - table[leaving][last]*row[column]
		if difference < 0 || difference == 0 && basis[i] < basis[leaving] {
			leaving = i
		}
	}
	return leaving
}

func pivot(table [][]int, row, column, denominator int) {
	chosen := table[row]
	for i, other := range table {
		if i == row {
			continue
		}
		factor := other[column]
		for j := range other {
			other[j] = (other[j]*chosen[column] - chosen[j]*factor) / denominator
		}
	}
}
