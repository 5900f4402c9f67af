package tests

import (
	"fmt"
	"math/rand"
	"slices"
	"testing"

	"loop.example/g01141/impl"
)

func wantPlay(t *testing.T, what string, got []int, score int, ok bool, want []int, wantScore int) {
	t.Helper()
	if !ok || !slices.Equal(got, want) || score != wantScore {
		t.Fatalf("%s = %v, %d, %v; want %v, %d, true", what, got, score, ok, want, wantScore)
	}
}

func wantNoPlay(t *testing.T, what string, got []int, score int, ok bool) {
	t.Helper()
	if ok || len(got) != 0 || score != 0 {
		t.Fatalf("%s = %v, %d, %v; want no list, 0, false", what, got, score, ok)
	}
}

// checkScores compares the score and the LostPairs of each play with the definition.
func checkScores(t *testing.T, g impl.Game) {
	t.Helper()
	for _, play := range allLists(g.X+g.Y, 2) {
		what := fmt.Sprintf("of %v for %v", play, g)
		score, ok := impl.PlayScore(g, play)
		wantNumber(t, "PlayScore "+what, score, ok, scoreByHand(g, play))
		var want []int
		for x := range g.X {
			for y := range g.Y {
				if weightAt(g, x, y) > 0 && !winsAt(g, x, y, play[x], play[g.X+y]) {
					want = append(want, x*g.Y+y)
				}
			}
		}
		lost, ok := impl.LostPairs(g, play)
		wantList(t, "LostPairs "+what, lost, ok, want...)
		for _, place := range lost {
			score += g.Weights[place]
		}
		if score != totalByHand(g) {
			t.Fatalf("the score and the lost weights %s are together %d", what, score)
		}
	}
}

// checkValue compares BestPlay, CountBest and PerfectPlay with all plays, and reports whether there is a perfect one.
func checkValue(t *testing.T, g impl.Game) bool {
	t.Helper()
	value, best := bestOfGame(g)
	play, score, ok := impl.BestPlay(g)
	wantPlay(t, fmt.Sprintf("BestPlay(%v)", g), play, score, ok, best[0], value)
	count, ok := impl.CountBest(g)
	wantNumber(t, fmt.Sprintf("CountBest(%v)", g), count, ok, len(best))
	perfect, ok := impl.PerfectPlay(g)
	for _, play := range allLists(g.X+g.Y, 2) {
		if isPerfectByHand(g, play) {
			wantList(t, fmt.Sprintf("PerfectPlay(%v)", g), perfect, ok, play...)
			return true
		}
	}
	wantNoList(t, fmt.Sprintf("PerfectPlay(%v)", g), perfect, ok)
	return false
}

func isPerfectByHand(g impl.Game, play []int) bool {
	for x := range g.X {
		for y := range g.Y {
			if weightAt(g, x, y) > 0 && !winsAt(g, x, y, play[x], play[g.X+y]) {
				return false
			}
		}
	}
	return true
}

// checkReplies compares each BestReply with all answers of the second player, and reports whether it ever had to choose 0.
func checkReplies(t *testing.T, g impl.Game) bool {
	t.Helper()
	even := false
	for _, first := range allLists(g.X, 2) {
		var best []int
		value, count := -1, 0
		for _, second := range allLists(g.Y, 2) {
			score := scoreByHand(g, slices.Concat(first, second))
			if score > value {
				value, best, count = score, second, 0
			}
			if score == value {
				count++
			}
		}
		even = even || count > 1
		reply, score, ok := impl.BestReply(g, first)
		wantPlay(t, fmt.Sprintf("BestReply(%v, %v)", g, first), reply, score, ok, best, value)
	}
	return even
}

func TestTotalWeight(t *testing.T) {
	total, ok := impl.TotalWeight(game(2, 2, []int{1, 0, 20, 3}, []int{1, 0, 0, 0}, []int{0, 0, 0, 0}, []int{0, 0, 0, 0}, []int{1, 1, 1, 1}))
	wantNumber(t, "TotalWeight", total, ok, 24)
	r := rand.New(rand.NewSource(42))
	for _, size := range allSizes() {
		x, y := size[0], size[1]
		total, ok := impl.TotalWeight(gameBy(x, y, allWeights(impl.MaxStake), never))
		wantNumber(t, fmt.Sprintf("TotalWeight for %v questions", size), total, ok, 99*x*y)
		for range 50 {
			g := someGame(r, x, y)
			total, ok := impl.TotalWeight(g)
			wantNumber(t, fmt.Sprintf("TotalWeight(%v)", g), total, ok, totalByHand(g))
		}
	}
}

// Both players should answer equally at all pairs but the last one.
func TestPlaysOfTheEqualSumsGame(t *testing.T) {
	g := equalSumsGame(5)
	for _, c := range []struct {
		play  []int
		score int
		lost  []int
	}{
		{[]int{0, 0, 0, 0}, 15, []int{3}},
		{[]int{1, 1, 1, 1}, 15, []int{3}},
		{[]int{0, 1, 0, 0}, 15, []int{2}},
		{[]int{0, 0, 0, 1}, 15, []int{1}},
		{[]int{0, 1, 1, 0}, 15, []int{0}},
		{[]int{0, 0, 1, 1}, 5, []int{0, 1, 2}},
		{[]int{0, 1, 1, 1}, 5, []int{0, 1, 3}},
	} {
		score, ok := impl.PlayScore(g, c.play)
		wantNumber(t, fmt.Sprintf("PlayScore(%v)", c.play), score, ok, c.score)
		lost, ok := impl.LostPairs(g, c.play)
		wantList(t, fmt.Sprintf("LostPairs(%v)", c.play), lost, ok, c.lost...)
	}
	play, value, ok := impl.BestPlay(g)
	wantPlay(t, "BestPlay", play, value, ok, []int{0, 0, 0, 0}, 15)
	count, ok := impl.CountBest(g)
	wantNumber(t, "CountBest", count, ok, 8)
	perfect, ok := impl.PerfectPlay(g)
	wantNoList(t, "PerfectPlay", perfect, ok)
	reply, score, ok := impl.BestReply(g, []int{0, 1})
	wantPlay(t, "BestReply to 0, 1", reply, score, ok, []int{0, 0}, 15)
	reply, score, ok = impl.BestReply(g, []int{1, 0})
	wantPlay(t, "BestReply to 1, 0", reply, score, ok, []int{0, 1}, 15)
	reply, score, ok = impl.BestReply(g, []int{1, 1})
	wantPlay(t, "BestReply to 1, 1", reply, score, ok, []int{1, 0}, 15)
}

// Of the questions of the second player only the last one is asked at all, so that the other answers are 0.
func TestPlaysWithWeightsOf0(t *testing.T) {
	g := game(1, 3, []int{0, 0, 7}, []int{0, 1, 0, 1}, []int{0, 0, 0, 0}, []int{0, 0, 0, 1})
	play, value, ok := impl.BestPlay(g)
	wantPlay(t, "BestPlay", play, value, ok, []int{1, 0, 0, 1}, 7)
	perfect, ok := impl.PerfectPlay(g)
	wantList(t, "PerfectPlay", perfect, ok, 1, 0, 0, 1)
	count, ok := impl.CountBest(g)
	wantNumber(t, "CountBest", count, ok, 4)
	lost, ok := impl.LostPairs(g, []int{0, 0, 0, 0})
	wantList(t, "LostPairs", lost, ok, 2)
	lost, ok = impl.LostPairs(g, []int{1, 0, 0, 1})
	wantList(t, "LostPairs", lost, ok)
	reply, score, ok := impl.BestReply(g, []int{1})
	wantPlay(t, "BestReply to 1", reply, score, ok, []int{0, 0, 1}, 7)
	reply, score, ok = impl.BestReply(g, []int{0})
	wantPlay(t, "BestReply to 0", reply, score, ok, []int{0, 0, 0}, 0)
}

// No play has a score greater than the value, and as many as CountBest says have it.
func TestPlaysOfGames(t *testing.T) {
	r := rand.New(rand.NewSource(43))
	perfect, flawed, even := 0, 0, 0
	for _, size := range allSizes() {
		for range 100 {
			g := someGame(r, size[0], size[1])
			checkScores(t, g)
			if checkValue(t, g) {
				perfect++
			} else {
				flawed++
			}
			if checkReplies(t, g) {
				even++
			}
		}
	}
	if perfect < 100 || flawed < 100 || even < 100 {
		t.Errorf("%d Games had a perfect play, %d had none, and %d had answers that are as good", perfect, flawed, even)
	}
}

func TestPlaysOfAllSmallGames(t *testing.T) {
	for _, size := range [][2]int{{1, 1}, {1, 2}, {2, 1}} {
		pairs := size[0] * size[1]
		for _, weights := range allLists(pairs, 3)[1:] {
			for _, bits := range allLists(4*pairs, 2) {
				g := game(size[0], size[1], weights, slices.Collect(slices.Chunk(bits, 4))...)
				checkScores(t, g)
				checkValue(t, g)
				checkReplies(t, g)
			}
		}
	}
}

// checkPromise looks at all plays by the functions alone.
func checkPromise(t *testing.T, g impl.Game) {
	t.Helper()
	best, value, ok := impl.BestPlay(g)
	count, fine := impl.CountBest(g)
	plays, valid := impl.PlaysOf(g.X, g.Y)
	if !ok || !fine || !valid {
		t.Fatalf("BestPlay, CountBest or PlaysOf fail for %v", g)
	}
	for _, play := range plays {
		score, ok := impl.PlayScore(g, play)
		if !ok || score > value || score == value && slices.Compare(play, best) < 0 {
			t.Fatalf("PlayScore(%v, %v) = %d, %v, beside BestPlay = %v, %d", g, play, score, ok, best, value)
		}
		if score == value {
			count--
		}
	}
	if count != 0 {
		t.Fatalf("CountBest(%v) is greater by %d than the number of best plays", g, count)
	}
	reply, score, ok := impl.BestReply(g, best[:g.X])
	wantPlay(t, fmt.Sprintf("BestReply(%v, %v)", g, best[:g.X]), reply, score, ok, best[g.X:], value)
}

func TestNoPlayHasMoreThanTheValue(t *testing.T) {
	r := rand.New(rand.NewSource(44))
	for _, size := range allSizes() {
		for range 100 {
			checkPromise(t, someGame(r, size[0], size[1]))
		}
	}
}

// A perfect play has the total as its score and no LostPairs, and is the first one; without one, the value is less.
func TestPerfectPlays(t *testing.T) {
	r := rand.New(rand.NewSource(45))
	for _, size := range allSizes() {
		for range 100 {
			g := someGame(r, size[0], size[1])
			total, _ := impl.TotalWeight(g)
			best, value, _ := impl.BestPlay(g)
			perfect, ok := impl.PerfectPlay(g)
			if !ok && (len(perfect) != 0 || value >= total) || ok && !slices.Equal(perfect, best) {
				t.Fatalf("PerfectPlay(%v) = %v, %v; BestPlay = %v, %d", g, perfect, ok, best, value)
			}
			if !ok {
				continue
			}
			score, fine := impl.PlayScore(g, perfect)
			wantNumber(t, "PlayScore of the perfect play", score, fine, total)
			lost, fine := impl.LostPairs(g, perfect)
			wantList(t, "LostPairs of the perfect play", lost, fine)
		}
	}
}

// A play can be perfect though it does not win for pairs with the weight 0, and a single such pair with another weight spoils it.
func TestPerfectPlaysWithASinglePair(t *testing.T) {
	for _, size := range allSizes() {
		x, y := size[0], size[1]
		for place := range x * y {
			for at := range 4 {
				for _, weight := range []int{1, impl.MaxStake} {
					g := gameBy(x, y, allWeights(0), never)
					g.Weights[place], g.Wins[place][at] = weight, 1
					want := make([]int, x+y)
					want[place/y], want[x+place%y] = at/2, at%2
					perfect, ok := impl.PerfectPlay(g)
					wantList(t, fmt.Sprintf("PerfectPlay(%v)", g), perfect, ok, want...)
					count, ok := impl.CountBest(g)
					wantNumber(t, fmt.Sprintf("CountBest(%v)", g), count, ok, 1<<(x+y-2))
					checkValue(t, g)
					if x*y == 1 {
						continue
					}
					g.Weights[(place+1)%(x*y)] = 1
					if checkValue(t, g) {
						t.Errorf("a perfect play of %v", g)
					}
				}
			}
		}
	}
}

// Where all answers win, or none do, all plays are as good, and the first one is taken.
func TestGamesThatAreAlwaysOrNeverWon(t *testing.T) {
	for _, size := range allSizes() {
		x, y := size[0], size[1]
		zeros := make([]int, x+y)
		for _, weight := range []int{1, impl.MaxStake} {
			won, lost := gameBy(x, y, allWeights(weight), always), gameBy(x, y, allWeights(weight), never)
			play, value, ok := impl.BestPlay(won)
			wantPlay(t, "BestPlay", play, value, ok, zeros, weight*x*y)
			play, value, ok = impl.BestPlay(lost)
			wantPlay(t, "BestPlay", play, value, ok, zeros, 0)
			perfect, ok := impl.PerfectPlay(won)
			wantList(t, "PerfectPlay", perfect, ok, zeros...)
			perfect, ok = impl.PerfectPlay(lost)
			wantNoList(t, "PerfectPlay", perfect, ok)
			for _, g := range []impl.Game{won, lost} {
				count, ok := impl.CountBest(g)
				wantNumber(t, "CountBest", count, ok, 1<<(x+y))
				reply, _, ok := impl.BestReply(g, make([]int, x))
				wantList(t, "BestReply", reply, ok, make([]int, y)...)
				checkScores(t, g)
				checkValue(t, g)
				checkReplies(t, g)
			}
		}
	}
}

func TestPlaysOfOtherGamesHaveNoScore(t *testing.T) {
	for _, size := range allSizes() {
		g := markedGame(size[0], size[1])
		for _, list := range badBits(size[0] + size[1]) {
			score, ok := impl.PlayScore(g, list)
			wantNoNumber(t, fmt.Sprintf("PlayScore(%v, %v)", g, list), score, ok)
			lost, ok := impl.LostPairs(g, list)
			wantNoList(t, fmt.Sprintf("LostPairs(%v, %v)", g, list), lost, ok)
		}
		for _, list := range badBits(size[0]) {
			reply, score, ok := impl.BestReply(g, list)
			wantNoPlay(t, fmt.Sprintf("BestReply(%v, %v)", g, list), reply, score, ok)
		}
	}
}
