package tests

import (
	"fmt"
	"math"
	"math/rand"
	"testing"

	"loop.example/g01141/impl"
)

// checkMixture also checks that the mixture is quiet, local and, for its shares, a mixture.
func checkMixture(t *testing.T, x, y int, shares []int) impl.Box {
	t.Helper()
	b, ok := impl.MixtureBox(x, y, shares)
	what := fmt.Sprintf("MixtureBox(%d, %d, %v)", x, y, shares)
	wantBox(t, what, b, ok, mixtureByHand(x, y, shares))
	is, ok := impl.IsMixture(b, shares)
	wantReport(t, "IsMixture of "+what, is, ok, true)
	quiet, ok := impl.IsQuiet(b)
	wantReport(t, "IsQuiet of "+what, quiet, ok, true)
	local, ok := impl.IsLocal(b)
	wantReport(t, "IsLocal of "+what, local, ok, true)
	return b
}

func TestMixturesByHand(t *testing.T) {
	b, ok := impl.MixtureBox(1, 1, []int{1, 0, 0, 2})
	wantBox(t, "MixtureBox", b, ok, box(1, 1, 3, []int{1, 0, 0, 2}))
	// In order, the answers are 0 0 0, 0 0 1, 0 1 0, 0 1 1, 1 0 0, 1 0 1, 1 1 0 and 1 1 1.
	shares := []int{1, 2, 4, 8, 16, 32, 64, 128}
	b, ok = impl.MixtureBox(1, 2, shares)
	wantBox(t, "MixtureBox", b, ok, box(1, 2, 255, []int{3, 12, 48, 192}, []int{5, 10, 80, 160}))
	b, ok = impl.MixtureBox(2, 1, shares)
	wantBox(t, "MixtureBox", b, ok, box(2, 1, 255, []int{5, 10, 80, 160}, []int{17, 34, 68, 136}))
	is, ok := impl.IsMixture(box(1, 1, 3, []int{1, 0, 0, 2}), []int{2, 0, 0, 4})
	wantReport(t, "IsMixture", is, ok, true)
	is, ok = impl.IsMixture(box(1, 1, 6, []int{2, 0, 0, 4}), []int{1, 0, 0, 2})
	wantReport(t, "IsMixture", is, ok, true)
	is, ok = impl.IsMixture(box(1, 1, 3, []int{1, 0, 0, 2}), []int{2, 0, 0, 1})
	wantReport(t, "IsMixture", is, ok, false)
}

func TestMixtures(t *testing.T) {
	r := rand.New(rand.NewSource(21))
	for _, size := range allSizes() {
		x, y := size[0], size[1]
		for place, play := range allLists(x+y, 2) {
			for _, share := range []int{1, 2, 999, impl.MaxWhole} {
				shares := make([]int, countPlays(x, y))
				shares[place] = share
				if b := checkMixture(t, x, y, shares); !sameBox(b, playBoxByHand(x, y, play, share)) {
					t.Errorf("mixture of %v alone: %v", play, b)
				}
			}
		}
		for range 60 {
			checkMixture(t, x, y, someShares(r, x, y, 1+r.Intn(impl.MaxWhole)))
			checkMixture(t, x, y, someShares(r, x, y, impl.MaxWhole))
			checkMixture(t, x, y, someShares(r, x, y, 1+r.Intn(6)))
		}
	}
}

// The numbers of the Box of each part are the same, however the parts are mixed.
func TestMixturesAreMixedPlays(t *testing.T) {
	r := rand.New(rand.NewSource(22))
	for range 500 {
		size := allSizes()[r.Intn(9)]
		x, y := size[0], size[1]
		one, two := someShares(r, x, y, 1+r.Intn(500)), someShares(r, x, y, 1+r.Intn(500))
		both := make([]int, len(one))
		for i := range both {
			both[i] = one[i] + two[i]
		}
		a, first := impl.MixtureBox(x, y, one)
		b, second := impl.MixtureBox(x, y, two)
		mix, ok := impl.MixtureBox(x, y, both)
		if !first || !second {
			t.Fatalf("MixtureBox of %v or %v fails", one, two)
		}
		wantBox(t, fmt.Sprintf("MixtureBox(%d, %d, %v)", x, y, both), mix, ok, mustMix(t, a, b))
	}
}

// badShares has lists that are no shares for x and y questions. Some of them have sums that wrap around to 1..MaxWhole.
func badShares(x, y int) [][]int {
	count := countPlays(x, y)
	bad := [][]int{nil, {}, make([]int, count)}
	for _, length := range []int{1, 2, 4, 8, 16, 32, 64, 128, count - 1, count + 1, 2 * count} {
		if length != count {
			list := make([]int, length)
			list[0] = 5
			bad = append(bad, list)
		}
	}
	with := func(place int, first, second, third int) {
		list := make([]int, count)
		list[place], list[(place+1)%count], list[(place+2)%count] = first, second, third
		bad = append(bad, list)
	}
	for place := range count {
		for _, n := range append(extremeInts(), -1, -2, -1000, impl.MaxWhole+1, impl.MaxWhole+2, 2*impl.MaxWhole) {
			with(place, n, 0, 0)
			with(place, n, 1, 0)
			with(place, n, 5-n, 0)
			with(place, n, 1000, 1000)
		}
		with(place, impl.MaxWhole, 1, 0)
		with(place, impl.MaxWhole-1, 1, 1)
		with(place, -1, 1, 1)
		with(place, -1, 2, 0)
		with(place, math.MaxInt, math.MaxInt, 3)
		with(place, math.MinInt, math.MinInt, 1)
		with(place, math.MaxInt, 1000, math.MinInt+1)
	}
	// Where each number of a row is the sum of 4 or of 16 shares, these sums wrap around to 0, and to 5.
	for _, n := range []int{-1 << 62, -1 << 61, -1 << 60, 1 << 60, 1 << 61, 1 << 62, math.MinInt, math.MaxInt, impl.MaxWhole} {
		list := make([]int, count)
		for i := range list {
			list[i] = n
		}
		list[count-1] += 5
		bad = append(bad, list)
	}
	return bad
}

func TestBadSharesMakeNoMixture(t *testing.T) {
	for _, size := range allSizes() {
		x, y := size[0], size[1]
		b := playBoxByHand(x, y, make([]int, x+y), 5)
		for _, shares := range badShares(x, y) {
			mix, ok := impl.MixtureBox(x, y, shares)
			wantNoBox(t, fmt.Sprintf("MixtureBox(%d, %d, %v)", x, y, shares), mix, ok)
			is, ok := impl.IsMixture(b, shares)
			wantNoReport(t, fmt.Sprintf("IsMixture(%v, %v)", b, shares), is, ok)
		}
	}
	for _, size := range badSizes() {
		for _, length := range []int{0, 1, 2, 4, 8, 16, 32, 64, 128} {
			shares := make([]int, length)
			for i := range shares {
				shares[i] = 1
			}
			mix, ok := impl.MixtureBox(size[0], size[1], shares)
			wantNoBox(t, fmt.Sprintf("MixtureBox for %v questions, with %d shares", size, length), mix, ok)
		}
	}
}

// The sum of shares, not each one alone, is at most MaxWhole.
func TestSumsOfShares(t *testing.T) {
	for _, size := range allSizes() {
		x, y := size[0], size[1]
		count := countPlays(x, y)
		for sum := impl.MaxWhole - 2; sum <= impl.MaxWhole+2; sum++ {
			shares := make([]int, count)
			for i := range shares {
				shares[i] = sum / count
			}
			shares[count-1] += sum % count
			if sum <= impl.MaxWhole {
				checkMixture(t, x, y, shares)
				continue
			}
			mix, ok := impl.MixtureBox(x, y, shares)
			wantNoBox(t, fmt.Sprintf("MixtureBox(%d, %d, %v)", x, y, shares), mix, ok)
		}
	}
}

func checkIsMixture(t *testing.T, b impl.Box, shares []int) bool {
	t.Helper()
	mix := mixtureByHand(b.X, b.Y, shares)
	want := true
	for i := range b.Rows {
		for j := range 4 {
			want = want && b.Rows[i][j]*mix.Whole == mix.Rows[i][j]*b.Whole
		}
	}
	is, ok := impl.IsMixture(b, shares)
	wantReport(t, fmt.Sprintf("IsMixture(%v, %v)", b, shares), is, ok, want)
	return want
}

// allShares has all lists of so many numbers with a sum.
func allShares(count, sum int) [][]int {
	if count == 1 {
		return [][]int{{sum}}
	}
	var lists [][]int
	for n := 0; n <= sum; n++ {
		for _, rest := range allShares(count-1, sum-n) {
			lists = append(lists, append([]int{n}, rest...))
		}
	}
	return lists
}

// Among these Boxes are loud ones, which are no mixtures, and some that are mixtures for several shares.
func TestMixturesAmongAllSmallBoxes(t *testing.T) {
	for _, c := range []struct{ x, y, whole, sum int }{
		{1, 1, 1, 1}, {1, 1, 2, 1}, {1, 1, 2, 2}, {1, 1, 2, 3}, {1, 1, 3, 6}, {1, 2, 1, 1}, {2, 1, 1, 2}, {1, 2, 2, 2}, {2, 1, 2, 1}, {2, 2, 1, 1},
	} {
		for _, b := range allBoxes(c.x, c.y, c.whole) {
			for _, shares := range allShares(countPlays(c.x, c.y), c.sum) {
				checkIsMixture(t, b, shares)
			}
		}
	}
}

// No row tells how the answers of one player to two questions go together.
func TestMixturesForSeveralShares(t *testing.T) {
	one, two := []int{1, 0, 0, 1, 0, 0, 0, 0}, []int{0, 3, 3, 0, 0, 0, 0, 0}
	if b := mixtureByHand(1, 2, one); !checkIsMixture(t, b, two) {
		t.Errorf("%v is no mixture for %v", b, two)
	}
	if b := mixtureByHand(2, 1, one); checkIsMixture(t, b, two) {
		t.Errorf("%v is a mixture for %v", b, two)
	}
	even := make([]int, 16)
	for i := range even {
		even[i] = 3
	}
	noise, ok := impl.NoiseBox(2, 2, 1)
	if !ok || !checkIsMixture(t, noise, even) {
		t.Errorf("%v is no mixture for %v", noise, even)
	}
}

func TestIsMixture(t *testing.T) {
	r := rand.New(rand.NewSource(23))
	for range 3000 {
		size := allSizes()[r.Intn(9)]
		x, y := size[0], size[1]
		sum := 1 + r.Intn(20)
		shares := someShares(r, x, y, sum)
		b, loud := mixtureByHand(x, y, shares), someBox(r, x, y)
		k := 1 + r.Intn(impl.MaxWhole/(sum+1))
		for i := range shares {
			shares[i] *= k
		}
		if !checkIsMixture(t, b, shares) {
			t.Fatalf("%v is no mixture for %v", b, shares)
		}
		checkIsMixture(t, anyQuietBox(r, x, y, sum), shares)
		checkIsMixture(t, loud, shares)
		shares[r.Intn(len(shares))] += k
		checkIsMixture(t, b, shares)
		checkIsMixture(t, b, someShares(r, x, y, 1+r.Intn(impl.MaxWhole)))
	}
}

// As many shares as 1 and 2 questions have, those for 2 and 1 have, too, but they make another mixture.
func TestMixturesOfEachSize(t *testing.T) {
	for _, size := range allSizes() {
		for _, other := range allSizes() {
			b := playBoxByHand(size[0], size[1], make([]int, size[0]+size[1]), 5)
			shares := make([]int, countPlays(other[0], other[1]))
			shares[0] = 3
			is, ok := impl.IsMixture(b, shares)
			if same := size[0]+size[1] == other[0]+other[1]; ok != same || is != same {
				t.Errorf("IsMixture for %v questions, and shares for %v: %v, %v", size, other, is, ok)
			}
		}
	}
}
