package tests

import (
	"fmt"
	"math"
	"math/rand"
	"testing"

	"loop.example/g01141/impl"
)

// flawedBox is no Box. A good one of as many questions stands beside it, if there is such a Box.
type flawedBox struct {
	bad, good impl.Box
}

func flawedBoxes() []flawedBox {
	flawed := []flawedBox{{impl.Box{}, markedBox(1, 1, 100)}}
	for _, size := range badSizes() {
		flawed = append(flawed, boxesOfBadSize(size[0], size[1])...)
	}
	for _, size := range allSizes() {
		good := markedBox(size[0], size[1], 100)
		for _, bad := range append(flawedWholes(size[0], size[1]), flawedLists(good)...) {
			flawed = append(flawed, flawedBox{bad, good})
		}
		for place := range good.Rows {
			for _, bad := range flawedRows(good, place) {
				flawed = append(flawed, flawedBox{bad, good})
			}
		}
	}
	return flawed
}

// boxesOfBadSize are right in all but the size: as many rows as the product tells, where that is possible.
func boxesOfBadSize(x, y int) []flawedBox {
	var flawed []flawedBox
	for _, rows := range []int{0, 1, 4, 9, x * y} {
		if rows < 0 || rows > 1000 {
			continue
		}
		b := impl.Box{X: x, Y: y, Whole: 2}
		for range rows {
			b.Rows = append(b.Rows, []int{1, 0, 0, 1})
		}
		flawed = append(flawed, flawedBox{b, markedBox(2, 2, 100)})
	}
	return flawed
}

func flawedWholes(x, y int) []impl.Box {
	flawed := []impl.Box{
		boxBy(x, y, 0, func(int, int, int, int) int { return 0 }),
		boxBy(x, y, impl.MaxWhole+1, func(i, j, a, c int) int { return (impl.MaxWhole + 1) * a * c }),
		boxBy(x, y, -1, func(i, j, a, c int) int { return -a * c }),
		boxBy(x, y, 4*impl.MaxWhole, func(int, int, int, int) int { return impl.MaxWhole }),
	}
	for _, whole := range append(extremeInts(), 99, 101, 0, -100, 200, 1000) {
		b := markedBox(x, y, 100)
		b.Whole = whole
		flawed = append(flawed, b, boxBy(x, y, whole, func(i, j, a, c int) int {
			if whole >= 0 && whole <= impl.MaxWhole {
				return whole
			}
			return whole * a * c
		}))
	}
	return flawed
}

func flawedLists(good impl.Box) []impl.Box {
	none, fewer, more, nils := copyBox(good), copyBox(good), copyBox(good), copyBox(good)
	none.Rows = nil
	fewer.Rows = fewer.Rows[:len(fewer.Rows)-1]
	more.Rows = append(more.Rows, []int{25, 25, 25, 25})
	for i := range nils.Rows {
		nils.Rows[i] = nil
	}
	return []impl.Box{none, fewer, more, nils}
}

func flawedRows(good impl.Box, place int) []impl.Box {
	rows := [][]int{
		nil, {}, {100}, {50, 50}, {50, 25, 25}, {25, 25, 25, 25, 0}, {20, 20, 20, 20, 20}, {0, 25, 25, 25, 25},
		{-1, 101, 0, 0}, {0, -1, 101, 0}, {0, 0, -1, 101}, {101, 0, 0, -1}, {-100, 100, 100, 0}, {200, 0, 0, -100},
		{0, 0, 0, 0}, {101, 0, 0, 0}, {99, 0, 0, 0}, {25, 25, 25, 24}, {25, 25, 25, 26}, {100, 100, 100, 100},
		{math.MaxInt, math.MaxInt, 102, 0}, {102, 0, math.MaxInt, math.MaxInt}, {math.MaxInt, 1, math.MinInt, 100},
		{math.MinInt, math.MinInt, 50, 50}, {1 << 62, 1 << 62, 1 << 62, 1<<62 + 100}, {1<<62 + 100, 1 << 62, 1 << 62, 1 << 62},
		{math.MinInt, 0, 0, math.MinInt + 100}, {-1 << 62, 1 << 62, 0, 100},
	}
	var flawed []impl.Box
	for _, row := range rows {
		bad := copyBox(good)
		bad.Rows[place] = row
		flawed = append(flawed, bad)
	}
	for at := range 4 {
		for _, change := range append(extremeInts(), -1, 1, -100, 100) {
			bad := copyBox(good)
			bad.Rows[place][at] += change
			flawed = append(flawed, bad)
		}
	}
	return flawed
}

func TestFlawedBoxesAreNone(t *testing.T) {
	for _, f := range flawedBoxes() {
		if impl.IsBox(f.bad) {
			t.Fatalf("IsBox(%v)", f.bad)
		}
		if !impl.IsBox(f.good) {
			t.Fatalf("not IsBox(%v)", f.good)
		}
	}
}

func TestBoxesOfEachSizeAndWhole(t *testing.T) {
	r := rand.New(rand.NewSource(2))
	for _, size := range allSizes() {
		for whole := 1; whole <= impl.MaxWhole; whole++ {
			b := impl.Box{X: size[0], Y: size[1], Whole: whole}
			for range size[0] * size[1] {
				b.Rows = append(b.Rows, someRow(r, whole))
			}
			if !impl.IsBox(b) {
				t.Fatalf("not IsBox(%v)", b)
			}
		}
	}
}

func TestEachSmallRowIsValidExactlyIfItSumsUp(t *testing.T) {
	for _, row := range allLists(4, 7) {
		for i := range row {
			row[i]--
		}
		want := row[0]+row[1]+row[2]+row[3] == 4 && min(row[0], row[1], row[2], row[3]) >= 0
		if impl.IsBox(box(1, 1, 4, row)) != want || impl.IsBox(box(1, 2, 4, []int{0, 4, 0, 0}, row)) != want {
			t.Errorf("IsBox with the row %v is not %v", row, want)
		}
	}
}

// ofBox calls a function for a Box that is not valid, beside other arguments that fit it as far as possible, and tells whether
// it was successful and whether all other results were zero.
type ofBox func(bad, good impl.Box) (ok bool, zero bool)

func callsOfBoxes() map[string]ofBox {
	return map[string]ofBox{
		"IsQuiet":       func(b, _ impl.Box) (bool, bool) { quiet, ok := impl.IsQuiet(b); return ok, !quiet },
		"FirstLoud":     func(b, _ impl.Box) (bool, bool) { p, q, ok := impl.FirstLoud(b); return ok, p == 0 && q == 0 },
		"AnswerCounts":  func(b, _ impl.Box) (bool, bool) { list, ok := impl.AnswerCounts(b); return ok, len(list) == 0 },
		"AgreementsOf":  func(b, _ impl.Box) (bool, bool) { list, ok := impl.AgreementsOf(b); return ok, len(list) == 0 },
		"MixBoxes, 1st": func(b, good impl.Box) (bool, bool) { c, ok := impl.MixBoxes(b, good); return ok, isZeroBox(c) },
		"MixBoxes, 2nd": func(b, good impl.Box) (bool, bool) { c, ok := impl.MixBoxes(good, b); return ok, isZeroBox(c) },
		"MixBoxes":      func(b, _ impl.Box) (bool, bool) { c, ok := impl.MixBoxes(b, b); return ok, isZeroBox(c) },
		"ScaleBox":      func(b, _ impl.Box) (bool, bool) { c, ok := impl.ScaleBox(b, 1); return ok, isZeroBox(c) },
		"ScaleBox by 2": func(b, _ impl.Box) (bool, bool) { c, ok := impl.ScaleBox(b, 2); return ok, isZeroBox(c) },
		"ReduceBox":     func(b, _ impl.Box) (bool, bool) { c, ok := impl.ReduceBox(b); return ok, isZeroBox(c) },
		"AreAlike, 1st": func(b, good impl.Box) (bool, bool) { alike, ok := impl.AreAlike(b, good); return ok, !alike },
		"AreAlike, 2nd": func(b, good impl.Box) (bool, bool) { alike, ok := impl.AreAlike(good, b); return ok, !alike },
		"AreAlike":      func(b, _ impl.Box) (bool, bool) { alike, ok := impl.AreAlike(b, b); return ok, !alike },
		"SwapPlayers":   func(b, _ impl.Box) (bool, bool) { c, ok := impl.SwapPlayers(b); return ok, isZeroBox(c) },
		"AskAgain": func(b, _ impl.Box) (bool, bool) {
			c, ok := impl.AskAgain(b, []int{0}, []int{0})
			return ok, isZeroBox(c)
		},
		"FlipAnswers": func(b, good impl.Box) (bool, bool) {
			c, ok := impl.FlipAnswers(b, make([]int, good.X+good.Y))
			return ok, isZeroBox(c)
		},
		"PlayOf": func(b, _ impl.Box) (bool, bool) { list, ok := impl.PlayOf(b); return ok, len(list) == 0 },
		"WorthOf": func(b, good impl.Box) (bool, bool) {
			n, ok := impl.WorthOf(noFactors(good.X*good.Y), b)
			return ok, n == 0
		},
		"BoxText": func(b, _ impl.Box) (bool, bool) { s, ok := impl.BoxText(b); return ok, s == "" },
	}
}

func noFactors(rows int) [][]int {
	f := make([][]int, rows)
	for i := range f {
		f[i] = make([]int, 4)
	}
	return f
}

func checkFlawedBoxesFail(t *testing.T, calls map[string]ofBox) {
	t.Helper()
	for name, call := range calls {
		for _, f := range flawedBoxes() {
			if ok, zero := call(f.bad, f.good); ok || !zero {
				t.Fatalf("%s of %v: %v, zero results %v", name, f.bad, ok, zero)
			}
		}
	}
}

func TestNoFunctionTakesAFlawedBox(t *testing.T) {
	checkFlawedBoxesFail(t, callsOfBoxes())
	for name, call := range callsOfBoxes() {
		if ok, _ := call(mustPlayBox(t, 3, 3, make([]int, 6), 5), mustPlayBox(t, 3, 3, make([]int, 6), 7)); ok == (name == "FirstLoud") {
			t.Errorf("%s of a quiet Box: %v", name, ok)
		}
	}
}

func isQuietByHand(b impl.Box) bool {
	player, _ := firstLoudByHand(b)
	return player < 0
}

// firstLoudByHand compares the sums for both answers, as the definition of quiet Boxes does; -1 is no player.
func firstLoudByHand(b impl.Box) (int, int) {
	for x := range b.X {
		for y := range b.Y {
			for a := range 2 {
				if numberAt(b, x, y, a, 0)+numberAt(b, x, y, a, 1) != numberAt(b, x, 0, a, 0)+numberAt(b, x, 0, a, 1) {
					return 0, x
				}
			}
		}
	}
	for y := range b.Y {
		for x := range b.X {
			for c := range 2 {
				if numberAt(b, x, y, 0, c)+numberAt(b, x, y, 1, c) != numberAt(b, 0, y, 0, c)+numberAt(b, 0, y, 1, c) {
					return 1, y
				}
			}
		}
	}
	return -1, -1
}

func checkQuiet(t *testing.T, b impl.Box) {
	t.Helper()
	player, question := firstLoudByHand(b)
	quiet, ok := impl.IsQuiet(b)
	if !ok || quiet != (player < 0) {
		t.Fatalf("IsQuiet(%v) = %v, %v", b, quiet, ok)
	}
	p, q, loud := impl.FirstLoud(b)
	if loud != (player >= 0) || loud && (p != player || q != question) || !loud && (p != 0 || q != 0) {
		t.Fatalf("FirstLoud(%v) = %d, %d, %v; by hand %d, %d", b, p, q, loud, player, question)
	}
	counts, ok := impl.AnswerCounts(b)
	if player >= 0 {
		wantNoList(t, fmt.Sprintf("AnswerCounts(%v)", b), counts, ok)
		return
	}
	var want []int
	for x := range b.X {
		want = append(want, numberAt(b, x, 0, 1, 0)+numberAt(b, x, 0, 1, 1))
	}
	for y := range b.Y {
		want = append(want, numberAt(b, 0, y, 0, 1)+numberAt(b, 0, y, 1, 1))
	}
	wantList(t, fmt.Sprintf("AnswerCounts(%v)", b), counts, ok, want...)
}

func checkAgreements(t *testing.T, b impl.Box) {
	t.Helper()
	var want []int
	for x := range b.X {
		for y := range b.Y {
			equal := numberAt(b, x, y, 0, 0) + numberAt(b, x, y, 1, 1)
			want = append(want, equal-(b.Whole-equal))
		}
	}
	agreements, ok := impl.AgreementsOf(b)
	wantList(t, fmt.Sprintf("AgreementsOf(%v)", b), agreements, ok, want...)
}

func TestQuietBoxesAmongAllSmallOnes(t *testing.T) {
	for _, c := range []struct{ x, y, whole int }{
		{1, 1, 1}, {1, 1, 2}, {1, 1, 5}, {1, 2, 1}, {1, 2, 3}, {2, 1, 1}, {2, 1, 3}, {2, 2, 1}, {2, 2, 2}, {1, 3, 2}, {3, 1, 2}, {2, 3, 1}, {3, 2, 1},
	} {
		for _, b := range allBoxes(c.x, c.y, c.whole) {
			checkQuiet(t, b)
			checkAgreements(t, b)
		}
	}
}

// A quiet Box with one part moved within one row is loud, for one player alone or for both.
func TestQuietBoxesWithAPartMoved(t *testing.T) {
	r := rand.New(rand.NewSource(3))
	seen := map[[3]int]bool{}
	for range 20000 {
		size := allSizes()[r.Intn(9)]
		b := someQuietBox(r, size[0], size[1])
		checkQuiet(t, b)
		checkAgreements(t, b)
		if !isQuietByHand(b) {
			t.Fatalf("%v is not quiet", b)
		}
		row := b.Rows[r.Intn(len(b.Rows))]
		if from := r.Intn(4); row[from] > 0 {
			row[from]--
			row[r.Intn(4)]++
		}
		checkQuiet(t, b)
		checkAgreements(t, b)
		if player, question := firstLoudByHand(b); player >= 0 {
			seen[[3]int{player, question, len(b.Rows)}] = true
		}
	}
	for player := range 2 {
		for question := range 3 {
			if !seen[[3]int{player, question, 9}] {
				t.Errorf("no Box with 9 rows was loud first for the player %d and the question %d", player, question)
			}
		}
	}
}

func TestAnyBoxes(t *testing.T) {
	r := rand.New(rand.NewSource(4))
	for range 3000 {
		size := allSizes()[r.Intn(9)]
		b := someBox(r, size[0], size[1])
		checkQuiet(t, b)
		checkAgreements(t, b)
	}
}

func TestLoudBoxesByHand(t *testing.T) {
	even, one, two := []int{1, 1, 1, 1}, []int{0, 2, 0, 2}, []int{0, 0, 2, 2}
	for _, c := range []struct {
		b                impl.Box
		player, question int
	}{
		{box(1, 2, 1, []int{1, 0, 0, 0}, []int{0, 0, 1, 0}), 0, 0},
		{box(2, 1, 1, []int{1, 0, 0, 0}, []int{0, 1, 0, 0}), 1, 0},
		{box(2, 2, 4, even, even, even, two), 0, 1},
		{box(2, 2, 4, even, even, even, one), 1, 1},
		{box(2, 2, 4, two, even, even, one), 0, 0},
		{box(2, 2, 4, one, even, even, two), 0, 1},
		{box(2, 2, 4, one, even, even, one), 1, 0},
		{box(3, 3, 4, even, even, even, even, even, even, even, even, two), 0, 2},
		{box(3, 3, 4, even, even, even, even, even, even, even, even, one), 1, 2},
		{box(1, 3, 4, even, even, two), 0, 0},
		{box(3, 1, 4, even, even, one), 1, 0},
	} {
		player, question, ok := impl.FirstLoud(c.b)
		if !ok || player != c.player || question != c.question {
			t.Errorf("FirstLoud(%v) = %d, %d, %v; want %d, %d, true", c.b, player, question, ok, c.player, c.question)
		}
		checkQuiet(t, c.b)
	}
	// With one question of the other player there is nothing to compare, so that such Boxes are quiet.
	checkQuiet(t, box(1, 3, 4, one, even, one))
	checkQuiet(t, box(3, 1, 4, even, two, even))
	for _, b := range allBoxes(1, 1, 3) {
		if quiet, ok := impl.IsQuiet(b); !ok || !quiet {
			t.Errorf("IsQuiet(%v) = %v, %v", b, quiet, ok)
		}
	}
}

func TestCountsAndAgreementsByHand(t *testing.T) {
	sums := box(2, 2, 2, []int{1, 0, 0, 1}, []int{1, 0, 0, 1}, []int{1, 0, 0, 1}, []int{0, 1, 1, 0})
	counts, ok := impl.AnswerCounts(sums)
	wantList(t, "AnswerCounts", counts, ok, 1, 1, 1, 1)
	agreements, ok := impl.AgreementsOf(sums)
	wantList(t, "AgreementsOf", agreements, ok, 2, 2, 2, -2)
	product := box(1, 2, 9, []int{2, 4, 1, 2}, []int{6, 0, 3, 0})
	counts, ok = impl.AnswerCounts(product)
	wantList(t, "AnswerCounts", counts, ok, 3, 6, 0)
	agreements, ok = impl.AgreementsOf(product)
	wantList(t, "AgreementsOf", agreements, ok, -1, 3)
	loud := box(1, 2, 1000, []int{1000, 0, 0, 0}, []int{0, 0, 1000, 0})
	counts, ok = impl.AnswerCounts(loud)
	wantNoList(t, "AnswerCounts", counts, ok)
	agreements, ok = impl.AgreementsOf(loud)
	wantList(t, "AgreementsOf", agreements, ok, 1000, -1000)
}
