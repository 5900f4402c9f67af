package tests

import "math/big"

// negativeList is a list of fractions for which the sum of all numbers of a matrix, each times those of its row and its column, is
// less than 0; or nil, if the matrix is never negative. The first number is taken out of the sum by completing the square, and the
// rest decides; so this does without any determinants.
func negativeList(a [][]*big.Rat) []*big.Rat {
	if len(a) == 0 {
		return nil
	}
	first := a[0][0]
	if first.Sign() < 0 {
		return append([]*big.Rat{big.NewRat(1, 1)}, zeroFractions(len(a)-1)...)
	}
	if first.Sign() == 0 {
		if list := listByFirst(a); list != nil {
			return list
		}
	}
	list := negativeList(restOf(a))
	if list == nil {
		return nil
	}
	// The first number is such that its square has the sum 0.
	start := new(big.Rat)
	if first.Sign() > 0 {
		for i, n := range list {
			start.Sub(start, new(big.Rat).Mul(a[0][i+1], n))
		}
		start.Quo(start, first)
	}
	return append([]*big.Rat{start}, list...)
}

// listByFirst is one for a matrix that begins with 0, if there is another number than 0 in its first row.
func listByFirst(a [][]*big.Rat) []*big.Rat {
	for j, n := range a[0] {
		if n.Sign() == 0 {
			continue
		}
		// The sum is a[j][j] + 2 n times the first number; here, it becomes -1.
		list := zeroFractions(len(a))
		list[j].SetInt64(1)
		list[0].Add(a[j][j], big.NewRat(1, 1))
		list[0].Quo(list[0], new(big.Rat).Mul(big.NewRat(-2, 1), n))
		return list
	}
	return nil
}

// restOf is the matrix of what is left of the sum without the first number's square.
func restOf(a [][]*big.Rat) [][]*big.Rat {
	var rest [][]*big.Rat
	for i := 1; i < len(a); i++ {
		var row []*big.Rat
		for j := 1; j < len(a); j++ {
			n := new(big.Rat).Set(a[i][j])
			if a[0][0].Sign() > 0 {
				less := new(big.Rat).Mul(a[0][i], a[0][j])
				n.Sub(n, less.Quo(less, a[0][0]))
			}
			row = append(row, n)
		}
		rest = append(rest, row)
	}
	return rest
}

func zeroFractions(size int) []*big.Rat {
	list := make([]*big.Rat, size)
	for i := range list {
		list[i] = new(big.Rat)
	}
	return list
}

func fractions(a [][]int) [][]*big.Rat {
	var table [][]*big.Rat
	for _, row := range a {
		list := zeroFractions(len(row))
		for i, n := range row {
			list[i].SetInt64(int64(n))
		}
		table = append(table, list)
	}
	return table
}

// sumFor is the sum of all numbers of a matrix, each times those of its row and its column.
func sumFor(a [][]*big.Rat, list []*big.Rat) *big.Rat {
	sum := new(big.Rat)
	for i := range a {
		for j := range a[i] {
			part := new(big.Rat).Mul(list[i], list[j])
			sum.Add(sum, part.Mul(part, a[i][j]))
		}
	}
	return sum
}
