package tests

import (
	"fmt"
	"math/rand"
	"testing"

	"loop.example/g01141/impl"
)

// l2Arguments are those of all functions of chapter 2 at once.
type l2Arguments struct {
	a, b           impl.Box
	f              [][]int
	play, flips    []int
	first, second  []int
	x, y, whole, k int
	text           string
}

func (v l2Arguments) call() []layerResult {
	var results []layerResult
	add := func(r layerResult) { results = append(results, r) }
	is := impl.IsBox(v.a)
	add(reportResult("IsBox", is, is))
	quiet, ok := impl.IsQuiet(v.a)
	add(reportResult("IsQuiet", quiet, ok))
	player, question, ok := impl.FirstLoud(v.a)
	add(numberResult("FirstLoud", ok, player, question))
	list, ok := impl.AnswerCounts(v.a)
	add(listResult("AnswerCounts", list, ok))
	list, ok = impl.AgreementsOf(v.a)
	add(listResult("AgreementsOf", list, ok))
	is, ok = impl.IsPlay(v.x, v.y, v.play)
	add(reportResult("IsPlay", is, ok))
	c, ok := impl.PlayBox(v.x, v.y, v.play, v.whole)
	add(boxResult("PlayBox", c, ok))
	c, ok = impl.NoiseBox(v.x, v.y, v.k)
	add(boxResult("NoiseBox", c, ok))
	c, ok = impl.ProductBox(v.first, v.second, v.k)
	add(boxResult("ProductBox", c, ok))
	c, ok = impl.MixBoxes(v.a, v.b)
	add(boxResult("MixBoxes", c, ok))
	c, ok = impl.ScaleBox(v.a, v.k)
	add(boxResult("ScaleBox", c, ok))
	c, ok = impl.ReduceBox(v.a)
	add(boxResult("ReduceBox", c, ok))
	alike, ok := impl.AreAlike(v.a, v.b)
	add(reportResult("AreAlike", alike, ok))
	c, ok = impl.SwapPlayers(v.a)
	add(boxResult("SwapPlayers", c, ok))
	c, ok = impl.AskAgain(v.a, v.first, v.second)
	add(boxResult("AskAgain", c, ok))
	c, ok = impl.FlipAnswers(v.a, v.flips)
	add(boxResult("FlipAnswers", c, ok))
	list, ok = impl.FlipPlay(v.x, v.y, v.play, v.flips)
	add(listResult("FlipPlay", list, ok))
	list, ok = impl.PlayOf(v.a)
	add(listResult("PlayOf", list, ok))
	worth, ok := impl.WorthOf(v.f, v.a)
	add(numberResult("WorthOf", ok, worth))
	worth, ok = impl.PlayWorth(v.x, v.y, v.f, v.play)
	add(numberResult("PlayWorth", ok, worth))
	text, ok := impl.BoxText(v.a)
	add(layerResult{"BoxText", text, nil, text == "", ok})
	c, ok = impl.ParseBox(v.text)
	return append(results, boxResult("ParseBox", c, ok))
}

func (v l2Arguments) withRoom() l2Arguments {
	v.a.Rows, v.b.Rows, v.f = rowsWithRoom(v.a.Rows), rowsWithRoom(v.b.Rows), rowsWithRoom(v.f)
	v.play, v.flips, v.first, v.second = withRoom(v.play), withRoom(v.flips), withRoom(v.first), withRoom(v.second)
	return v
}

func (v l2Arguments) memory() string {
	s := fmt.Sprint(v.a.X, v.a.Y, v.a.Whole, v.b.X, v.b.Y, v.b.Whole, v.x, v.y, v.whole, v.k, v.text)
	return s + memoryOfRows(v.a.Rows) + memoryOfRows(v.b.Rows) + memoryOfRows(v.f) + memoryOfLists(v.play, v.flips, v.first, v.second)
}

func someQuestions(r *rand.Rand, questions int) []int {
	list := make([]int, 1+r.Intn(3))
	for i := range list {
		list[i] = r.Intn(questions)
	}
	return list
}

func wildL2Arguments(r *rand.Rand) l2Arguments {
	x, y := 1+r.Intn(3), 1+r.Intn(3)
	v := l2Arguments{
		a: wildBox(r, x, y), b: wildBox(r, x, y), f: someFunctional(r, x, y), play: someBits(r, x+y), flips: someBits(r, x+y),
		first: someQuestions(r, x), second: someQuestions(r, y), x: x, y: y, whole: wildInt(r), k: wildInt(r), text: textByHand(someBox(r, x, y)),
	}
	switch r.Intn(10) {
	case 0:
		v.f = wildRows(r, v.f)
	case 1:
		v.play = wildList(r)
	case 2:
		v.flips = wildList(r)
	case 3:
		v.x = wildInt(r)
	case 4:
		v.y = wildInt(r)
	case 5:
		v.text = withByte(v.text, r.Intn(len(v.text)), byte(r.Intn(256)))
	case 6:
		v.text = someText(r)
	case 7:
		v.first = wildList(r)
	case 8:
		v.second = wildList(r)
	}
	return v
}

func TestLayer2IsTotalAndChangesNothing(t *testing.T) {
	r := rand.New(rand.NewSource(18))
	checkTotal(t, func() l2Arguments { return wildL2Arguments(r) })
}

// The arguments are such that a function could return a part of them as it is: nothing is flipped, scaled or reduced, and
// each player is asked the same question again.
func sharedL2Arguments(x, y int) l2Arguments {
	play := make([]int, x+y)
	return l2Arguments{
		a: playBoxByHand(x, y, play, 1), b: markedBox(x, y, 500), f: noFactors(x * y), play: play, flips: make([]int, x+y),
		first: make([]int, 3), second: make([]int, 3), x: x, y: y, whole: 1, k: 1, text: textByHand(markedBox(x, y, 500)),
	}
}

func TestLayer2SharesNoMemory(t *testing.T) {
	for _, size := range allSizes() {
		checkSharesNothing(t, sharedL2Arguments(size[0], size[1]), "FirstLoud")
	}
}
