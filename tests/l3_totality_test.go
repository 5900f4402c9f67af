package tests

import (
	"fmt"
	"math/rand"
	"testing"

	"loop.example/g01141/impl"
)

// l3Arguments are those of all functions of chapter 3 at once.
type l3Arguments struct {
	b             impl.Box
	f             [][]int
	shares        []int
	first, second [2]int
	x, y, m       int
}

func (v l3Arguments) call() []layerResult {
	var results []layerResult
	add := func(r layerResult) { results = append(results, r) }
	rows, ok := impl.PlaysOf(v.x, v.y)
	add(rowsResult("PlaysOf", rows, ok))
	n, ok := impl.LocalValue(v.x, v.y, v.f)
	add(numberResult("LocalValue", ok, n))
	rows, ok = impl.BestPlays(v.x, v.y, v.f)
	add(rowsResult("BestPlays", rows, ok))
	b, ok := impl.MixtureBox(v.x, v.y, v.shares)
	add(boxResult("MixtureBox", b, ok))
	is, ok := impl.IsMixture(v.b, v.shares)
	add(reportResult("IsMixture", is, ok))
	n, ok = impl.SumOf(v.b, v.first, v.second, v.m)
	add(numberResult("SumOf", ok, n))
	rows, ok = impl.SumFunctional(v.x, v.y, v.first, v.second, v.m)
	add(rowsResult("SumFunctional", rows, ok))
	n, ok = impl.GreatestSum(v.b)
	add(numberResult("GreatestSum", ok, n))
	one, two, m, ok := impl.FirstSum(v.b)
	add(numberResult("FirstSum", ok, one[0], one[1], two[0], two[1], m))
	n, ok = impl.TripleWorth(v.b)
	add(numberResult("TripleWorth", ok, n))
	n, ok = impl.GreatestTriple(v.b)
	add(numberResult("GreatestTriple", ok, n))
	is, ok = impl.IsLocal(v.b)
	add(reportResult("IsLocal", is, ok))
	is, ok = impl.IsWitness(v.b, v.f)
	return append(results, reportResult("IsWitness", is, ok))
}

func (v l3Arguments) withRoom() l3Arguments {
	v.b.Rows, v.f, v.shares = rowsWithRoom(v.b.Rows), rowsWithRoom(v.f), withRoom(v.shares)
	return v
}

func (v l3Arguments) memory() string {
	s := fmt.Sprint(v.b.X, v.b.Y, v.b.Whole, v.first, v.second, v.x, v.y, v.m)
	return s + memoryOfRows(v.b.Rows) + memoryOfRows(v.f) + memoryOfLists(v.shares)
}

func wildPair(r *rand.Rand) [2]int {
	return [][2]int{{0, 1}, {0, 1}, {0, 2}, {1, 2}, {wildInt(r), wildInt(r)}, {0, wildInt(r)}}[r.Intn(6)]
}

func wildShares(r *rand.Rand, x, y int) []int {
	shares := someShares(r, x, y, 1+r.Intn(impl.MaxWhole))
	switch r.Intn(8) {
	case 0:
		shares[r.Intn(len(shares))] = wildInt(r)
	case 1:
		shares[r.Intn(len(shares))] += wildInt(r)
	case 2:
		shares = shares[:r.Intn(len(shares))]
	case 3:
		shares = append(shares, wildInt(r))
	case 4:
		shares = wildList(r)
	}
	return shares
}

// Three questions each, which triples need, are as frequent as all other sizes together.
func wildL3Arguments(r *rand.Rand) l3Arguments {
	x, y := 1+r.Intn(3), 1+r.Intn(3)
	if r.Intn(2) == 0 {
		x, y = 3, 3
	}
	v := l3Arguments{
		b: wildBox(r, x, y), f: someFunctional(r, x, y), shares: wildShares(r, x, y),
		first: wildPair(r), second: wildPair(r), x: x, y: y, m: r.Intn(4),
	}
	switch r.Intn(8) {
	case 0:
		v.f = wildRows(r, v.f)
	case 1:
		v.x = wildInt(r)
	case 2:
		v.y = wildInt(r)
	case 3:
		v.m = wildInt(r)
	}
	return v
}

func TestLayer3IsTotalAndChangesNothing(t *testing.T) {
	r := rand.New(rand.NewSource(40))
	checkTotal(t, func() l3Arguments { return wildL3Arguments(r) })
}

// A functional without factors has all plays as its best ones.
func TestLayer3SharesNoMemory(t *testing.T) {
	for _, size := range allSizes() {
		x, y := size[0], size[1]
		var failing []string
		if x != 3 || y != 3 {
			failing = append(failing, "TripleWorth", "GreatestTriple")
		}
		if x == 1 || y == 1 {
			failing = append(failing, "SumOf", "SumFunctional", "FirstSum")
		}
		shares := make([]int, countPlays(x, y))
		shares[0] = 1
		checkSharesNothing(t, l3Arguments{
			b: playBoxByHand(x, y, make([]int, x+y), 1), f: noFactors(x * y), shares: shares,
			first: [2]int{0, 1}, second: [2]int{0, 1}, x: x, y: y, m: 3,
		}, failing...)
	}
}
