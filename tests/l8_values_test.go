package tests

import (
	"fmt"
	"math/rand"
	"testing"

	"loop.example/g01141/impl"
)

func wantTalkValue(t *testing.T, g impl.Game, want int) {
	t.Helper()
	value, ok := impl.TalkValue(g)
	wantNumber(t, fmt.Sprintf("TalkValue(%v)", g), value, ok, want)
}

// checkTalkValue reports whether the value is neither that of the Game nor the total.
func checkTalkValue(t *testing.T, g impl.Game) bool {
	t.Helper()
	told, value, total := talkValueByHand(g), valueByHand(g), totalByHand(g)
	wantTalkValue(t, g, told)
	if told < value || told > total {
		t.Fatalf("TalkValue(%v) = %d, with the value %d and the total %d", g, told, value, total)
	}
	return told > value && told < total
}

func TestTalkValuesByHand(t *testing.T) {
	wantTalkValue(t, equalSumsGame(1), 4)
	wantTalkValue(t, equalSumsGame(impl.MaxStake), 4*impl.MaxStake)
	wantTalkValue(t, gameBy(3, 3, markedWeights, always), 9+9*3+9*10)
	wantTalkValue(t, gameBy(3, 3, markedWeights, never), 0)
	// The second player is to answer with the question of the first one: a bit tells two of three apart.
	guess := func(x, _, _, c int) bool { return c == x%2 }
	wantTalkValue(t, gameBy(2, 1, allWeights(7), guess), 14)
	wantTalkValue(t, gameBy(3, 1, allWeights(7), guess), 21)
	// The answers of the second player to both questions are to tell all three apart, where a bit tells two.
	tell := func(x, y, _, c int) bool { return c == x>>y&1 }
	wantTalkValue(t, gameBy(2, 2, markedWeights, tell), 1+4+11+14)
	wantTalkValue(t, gameBy(3, 2, allWeights(5), tell), 25)
	// The first player is not told anything: what only the second one knows does not help.
	wantTalkValue(t, gameBy(1, 2, allWeights(5), func(_, y, a, _ int) bool { return a == y }), 5)
	wantTalkValue(t, gameBy(2, 2, allWeights(5), func(_, y, a, _ int) bool { return a == y }), 10)
	// With one question of the first player, there is nothing to tell.
	wantTalkValue(t, game(1, 1, []int{9}, []int{0, 0, 1, 0}), 9)
	wantTalkValue(t, game(1, 1, []int{9}, []int{0, 0, 0, 0}), 0)
}

func TestTalkValues(t *testing.T) {
	r := rand.New(rand.NewSource(162))
	between := 0
	for _, size := range allSizes() {
		for range 60 {
			if checkTalkValue(t, someGame(r, size[0], size[1])) {
				between++
			}
			if checkTalkValue(t, someSignGame(t, r, size[0], size[1])) {
				between++
			}
		}
		checkTalkValue(t, markedGame(size[0], size[1]))
	}
	if between < 20 {
		t.Errorf("%d values are between the value and the total", between)
	}
}

// With one question of the first player, the second one knows all that is asked, and a bit does not help.
func TestTalkValueOfOneQuestionOfTheFirst(t *testing.T) {
	r := rand.New(rand.NewSource(163))
	for y := 1; y <= 3; y++ {
		for range 100 {
			g := someGame(r, 1, y)
			wantTalkValue(t, g, valueByHand(g))
		}
	}
}

// With two questions of the first player, a bit tells which one it is: all is won if each answer of the first player can win.
func TestTalkValueOfTwoQuestionsOfTheFirst(t *testing.T) {
	r := rand.New(rand.NewSource(164))
	helped := 0
	for y := 1; y <= 3; y++ {
		for range 100 {
			g := game(2, y, someWeights(r, 2*y))
			for range 2 * y {
				g.Wins = append(g.Wins, [][]int{{1, 0, 0, 1}, {0, 1, 1, 0}, {1, 0, 1, 0}, {0, 1, 0, 1}, {1, 1, 0, 1}}[r.Intn(5)])
			}
			wantTalkValue(t, g, totalByHand(g))
			if valueByHand(g) < totalByHand(g) {
				helped++
			}
		}
	}
	if helped < 20 {
		t.Errorf("the bit helps %d times", helped)
	}
}
