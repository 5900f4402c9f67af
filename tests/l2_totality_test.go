package tests

import (
	"fmt"
	"math/rand"
	"slices"
	"testing"

	"loop.example/g01141/impl"
)

// l2Arguments are those of all functions of chapter 2 at once.
type l2Arguments struct {
	a, b           impl.Box
	f              [][]int
	play, flips    []int
	first, second  []int
	x, y, whole, k int
	text           string
}

// l2Result is what one function returns: numbers, reports and texts as a text, lists and Rows as lists.
type l2Result struct {
	name  string
	plain string
	lists [][]int
	zero  bool
	ok    bool
}

func numberResult(name string, ok bool, numbers ...int) l2Result {
	return l2Result{name, fmt.Sprint(numbers), nil, slices.Max(numbers) == 0 && slices.Min(numbers) == 0, ok}
}

func reportResult(name string, report bool, ok bool) l2Result {
	return l2Result{name, fmt.Sprint(report), nil, !report, ok}
}

func listResult(name string, list []int, ok bool) l2Result {
	return l2Result{name, "", [][]int{list}, len(list) == 0, ok}
}

func boxResult(name string, b impl.Box, ok bool) l2Result {
	return l2Result{name, fmt.Sprint(b.X, b.Y, b.Whole), b.Rows, isZeroBox(b), ok}
}

func callLayer2(v l2Arguments) []l2Result {
	var results []l2Result
	add := func(r l2Result) { results = append(results, r) }
	add(reportResult("IsBox", impl.IsBox(v.a), true))
	quiet, ok := impl.IsQuiet(v.a)
	add(reportResult("IsQuiet", quiet, ok))
	player, question, ok := impl.FirstLoud(v.a)
	add(numberResult("FirstLoud", ok, player, question))
	list, ok := impl.AnswerCounts(v.a)
	add(listResult("AnswerCounts", list, ok))
	list, ok = impl.AgreementsOf(v.a)
	add(listResult("AgreementsOf", list, ok))
	is, ok := impl.IsPlay(v.x, v.y, v.play)
	add(reportResult("IsPlay", is, ok))
	c, ok := impl.PlayBox(v.x, v.y, v.play, v.whole)
	add(boxResult("PlayBox", c, ok))
	c, ok = impl.NoiseBox(v.x, v.y, v.k)
	add(boxResult("NoiseBox", c, ok))
	c, ok = impl.ProductBox(v.first, v.second, v.k)
	add(boxResult("ProductBox", c, ok))
	c, ok = impl.MixBoxes(v.a, v.b)
	add(boxResult("MixBoxes", c, ok))
	c, ok = impl.ScaleBox(v.a, v.k)
	add(boxResult("ScaleBox", c, ok))
	c, ok = impl.ReduceBox(v.a)
	add(boxResult("ReduceBox", c, ok))
	alike, ok := impl.AreAlike(v.a, v.b)
	add(reportResult("AreAlike", alike, ok))
	c, ok = impl.SwapPlayers(v.a)
	add(boxResult("SwapPlayers", c, ok))
	c, ok = impl.AskAgain(v.a, v.first, v.second)
	add(boxResult("AskAgain", c, ok))
	c, ok = impl.FlipAnswers(v.a, v.flips)
	add(boxResult("FlipAnswers", c, ok))
	list, ok = impl.FlipPlay(v.x, v.y, v.play, v.flips)
	add(listResult("FlipPlay", list, ok))
	list, ok = impl.PlayOf(v.a)
	add(listResult("PlayOf", list, ok))
	worth, ok := impl.WorthOf(v.f, v.a)
	add(numberResult("WorthOf", ok, worth))
	worth, ok = impl.PlayWorth(v.x, v.y, v.f, v.play)
	add(numberResult("PlayWorth", ok, worth))
	text, ok := impl.BoxText(v.a)
	add(l2Result{"BoxText", text, nil, text == "", ok})
	c, ok = impl.ParseBox(v.text)
	return append(results, boxResult("ParseBox", c, ok))
}

func sameL2Result(a, b l2Result) bool {
	return a.name == b.name && a.plain == b.plain && a.ok == b.ok && sameRows(a.lists, b.lists)
}

// withRoom has numbers behind the list, in which something could be written unseen.
func withRoom(list []int) []int {
	if list == nil {
		return nil
	}
	roomy := append(slices.Clone(list), 77, 78, 79, 80, 81)
	return roomy[:len(list)]
}

func rowsWithRoom(rows [][]int) [][]int {
	roomy := make([][]int, len(rows), len(rows)+3)
	for i, row := range rows {
		roomy[i] = withRoom(row)
	}
	return roomy
}

func argumentsWithRoom(v l2Arguments) l2Arguments {
	v.a.Rows, v.b.Rows, v.f = rowsWithRoom(v.a.Rows), rowsWithRoom(v.b.Rows), rowsWithRoom(v.f)
	v.play, v.flips, v.first, v.second = withRoom(v.play), withRoom(v.flips), withRoom(v.first), withRoom(v.second)
	return v
}

// memoryOf shows all that the arguments hold, the room behind each list included.
func memoryOf(v l2Arguments) string {
	s := fmt.Sprint(v.a.X, v.a.Y, v.a.Whole, v.b.X, v.b.Y, v.b.Whole, v.x, v.y, v.whole, v.k, v.text)
	for _, rows := range [][][]int{v.a.Rows, v.b.Rows, v.f} {
		s += fmt.Sprintln(len(rows))
		for _, row := range rows[:cap(rows)] {
			s += fmt.Sprintln(len(row), row[:cap(row)])
		}
	}
	for _, list := range [][]int{v.play, v.flips, v.first, v.second} {
		s += fmt.Sprintln(len(list), list[:cap(list)])
	}
	return s
}

func wildInt(r *rand.Rand) int {
	extremes := extremeInts()
	return []int{r.Intn(5) - 1, r.Intn(4), 1, 2, 3, r.Intn(1200) - 100, int(r.Uint64()), extremes[r.Intn(len(extremes))]}[r.Intn(8)]
}

func wildList(r *rand.Rand) []int {
	list := someBits(r, r.Intn(8))
	if len(list) > 0 && r.Intn(3) == 0 {
		list[r.Intn(len(list))] = wildInt(r)
	}
	return [][]int{list, list, list, nil, {}}[r.Intn(5)]
}

func someQuestions(r *rand.Rand, questions int) []int {
	list := make([]int, 1+r.Intn(3))
	for i := range list {
		list[i] = r.Intn(questions)
	}
	return list
}

func wildRows(r *rand.Rand, rows [][]int) [][]int {
	rows = copyRows(rows)
	place := r.Intn(len(rows))
	switch r.Intn(6) {
	case 0:
		rows[place][r.Intn(4)] = wildInt(r)
	case 1:
		rows[place] = rows[place][:r.Intn(4)]
	case 2:
		rows[place] = append(rows[place], wildInt(r))
	case 3:
		rows[place] = nil
	case 4:
		rows = rows[:r.Intn(len(rows)+1)]
	case 5:
		rows = append(rows, slices.Clone(rows[place]))
	}
	return rows
}

func wildBox(r *rand.Rand, x, y int) impl.Box {
	b := []impl.Box{someBox(r, x, y), someQuietBox(r, x, y), playBoxByHand(x, y, someBits(r, x+y), 1+r.Intn(3))}[r.Intn(3)]
	switch r.Intn(8) {
	case 0:
		b.Rows = wildRows(r, b.Rows)
	case 1:
		b.X = wildInt(r)
	case 2:
		b.Y = wildInt(r)
	case 3:
		b.Whole = wildInt(r)
	}
	return b
}

func wildArguments(r *rand.Rand) l2Arguments {
	x, y := 1+r.Intn(3), 1+r.Intn(3)
	v := l2Arguments{
		a: wildBox(r, x, y), b: wildBox(r, x, y), f: someFunctional(r, x, y), play: someBits(r, x+y), flips: someBits(r, x+y),
		first: someQuestions(r, x), second: someQuestions(r, y), x: x, y: y, whole: wildInt(r), k: wildInt(r), text: textByHand(someBox(r, x, y)),
	}
	switch r.Intn(10) {
	case 0:
		v.f = wildRows(r, v.f)
	case 1:
		v.play = wildList(r)
	case 2:
		v.flips = wildList(r)
	case 3:
		v.x = wildInt(r)
	case 4:
		v.y = wildInt(r)
	case 5:
		v.text = withByte(v.text, r.Intn(len(v.text)), byte(r.Intn(256)))
	case 6:
		v.text = someText(r)
	case 7:
		v.first = wildList(r)
	case 8:
		v.second = wildList(r)
	}
	return v
}

func TestLayer2IsTotalAndChangesNothing(t *testing.T) {
	r := rand.New(rand.NewSource(18))
	valid, failed := map[string]int{}, map[string]int{}
	for range 10000 {
		v := argumentsWithRoom(wildArguments(r))
		kept := memoryOf(v)
		first, second := callLayer2(v), callLayer2(v)
		if memoryOf(v) != kept {
			t.Fatalf("changed arguments: %s, before: %s", memoryOf(v), kept)
		}
		for i, result := range first {
			if !sameL2Result(result, second[i]) {
				t.Fatalf("%s of %v: %v, and then %v", result.name, v, result, second[i])
			}
			if !result.ok && !result.zero {
				t.Fatalf("%s of %v fails with %v", result.name, v, result)
			}
			if result.ok {
				valid[result.name]++
			} else {
				failed[result.name]++
			}
		}
	}
	for _, result := range callLayer2(l2Arguments{}) {
		if valid[result.name] < 100 || failed[result.name] < 100 && result.name != "IsBox" {
			t.Errorf("%s was valid %d times, and failed %d times", result.name, valid[result.name], failed[result.name])
		}
		if result.ok && result.name != "IsBox" || !result.zero {
			t.Errorf("%s of nothing: %v", result.name, result)
		}
	}
}

// overwrite writes another number into each list, the room behind it included, and reports whether none of them reaches into another.
func overwrite(lists [][]int) bool {
	apart := true
	for range 2 {
		for i, list := range lists {
			for j := range list[:cap(list)] {
				list[:cap(list)][j] = 5000 + i
			}
		}
		for i, list := range lists {
			for _, n := range list {
				apart = apart && n == 5000+i
			}
		}
		lists = slices.Clone(lists)
		slices.Reverse(lists)
	}
	return apart
}

// The arguments are such that a function could return a part of them as it is: nothing is flipped, scaled or reduced, and
// each player is asked the same question again.
func sharedArguments(x, y int) l2Arguments {
	play := make([]int, x+y)
	return l2Arguments{
		a: playBoxByHand(x, y, play, 1), b: markedBox(x, y, 500), f: noFactors(x * y), play: play, flips: make([]int, x+y),
		first: make([]int, 3), second: make([]int, 3), x: x, y: y, whole: 1, k: 1, text: textByHand(markedBox(x, y, 500)),
	}
}

func TestLayer2SharesNoMemory(t *testing.T) {
	for _, size := range allSizes() {
		v := argumentsWithRoom(sharedArguments(size[0], size[1]))
		kept := memoryOf(v)
		expected, first, second := callLayer2(v), callLayer2(v), callLayer2(v)
		for i := range first {
			expected[i].lists = copyRows(expected[i].lists)
			if first[i].name != "FirstLoud" && !first[i].ok {
				t.Errorf("%s fails for %v questions", first[i].name, size)
			}
			if !overwrite(first[i].lists) {
				t.Errorf("two lists of one result of %s share memory", first[i].name)
			}
			if memoryOf(v) != kept {
				t.Fatalf("a result of %s shares memory with an argument", first[i].name)
			}
		}
		for i := range second {
			if !sameL2Result(second[i], expected[i]) {
				t.Errorf("results of %s, or of another function, share memory", second[i].name)
			}
		}
		for i, result := range callLayer2(v) {
			if !sameL2Result(result, expected[i]) {
				t.Errorf("%s returns something else after a result was changed", result.name)
			}
		}
	}
}

// The rows behind those of a result must not be rows of an argument or of another row either.
func TestRowsOfResultsCanBeLengthened(t *testing.T) {
	for _, size := range allSizes() {
		v := argumentsWithRoom(sharedArguments(size[0], size[1]))
		kept := memoryOf(v)
		for _, result := range callLayer2(v) {
			before := copyRows(result.lists)
			for i := range result.lists {
				_ = append(result.lists[i], 9, 9, 9, 9, 9)
			}
			_ = append(result.lists, []int{9})
			if !sameRows(before, result.lists) || memoryOf(v) != kept {
				t.Errorf("%s: a row reaches into another one", result.name)
			}
		}
	}
}
