package tests

import (
	"fmt"
	"math/rand"
	"slices"
	"testing"

	"loop.example/g01141/impl"
)

// l9Arguments are those of all functions of chapter 9 at once; i and k are counted from 1 here, so that nothing is no place.
type l9Arguments struct {
	n, i, k, chainBit int
	code              []int
	codes             [][]int
	b                 impl.Box
}

func (v l9Arguments) call() []layerResult {
	var results []layerResult
	add := func(r layerResult) { results = append(results, r) }
	is := impl.IsCode(v.n, v.code)
	add(reportResult("IsCode", is, is))
	list, ok := impl.CodeScores(v.n, v.code)
	add(listResult("CodeScores", list, ok))
	pairs, ok := impl.CodeGuesses(v.n, v.code)
	add(rowsResult("CodeGuesses", pairLists(pairs), ok))
	n, ok := impl.CodeTotal(v.n, v.code)
	add(numberResult("CodeTotal", ok, n))
	list, ok = impl.BestCode(v.n)
	add(listResult("BestCode", list, ok))
	list, ok = impl.FairCode(v.n)
	add(listResult("FairCode", list, ok))
	list, ok = impl.BitCode(v.n, v.i-1)
	add(listResult("BitCode", list, ok))
	list, ok = impl.MajorityCode(v.n)
	add(listResult("MajorityCode", list, ok))
	list, ok = impl.ParityCode(v.n)
	add(listResult("ParityCode", list, ok))
	list, ok = impl.SharedScores(v.n, v.codes)
	add(listResult("SharedScores", list, ok))
	list, ok = impl.BoxCode(v.b)
	add(listResult("BoxCode", list, ok))
	n, ok = impl.ChainRight(v.b, v.k-1, v.chainBit-1)
	add(numberResult("ChainRight", ok, n))
	n, ok = impl.ChainLeast(v.b)
	return append(results, numberResult("ChainLeast", ok, n))
}

func (v l9Arguments) withRoom() l9Arguments {
	v.code, v.codes, v.b.Rows = withRoom(v.code), rowsWithRoom(v.codes), rowsWithRoom(v.b.Rows)
	return v
}

func (v l9Arguments) memory() string {
	s := fmt.Sprint(v.n, v.i, v.k, v.chainBit, v.b.X, v.b.Y, v.b.Whole)
	return s + memoryOfLists(v.code) + memoryOfRows(v.codes) + memoryOfRows(v.b.Rows)
}

// spoil changes at most one of the arguments, beside the Box.
func (v *l9Arguments) spoil(r *rand.Rand) {
	numbers := []*int{&v.n, &v.i, &v.k, &v.chainBit}
	switch place := r.Intn(3 * len(numbers)); {
	case place < len(numbers):
		*numbers[place] = wildInt(r)
	case place == len(numbers):
		v.code = wildList(r)
	case place == len(numbers)+1:
		v.codes = wildRows(r, v.codes)
	case place == len(numbers)+2:
		v.codes = nil
	}
}

// Two questions each, which this chapter needs, and Boxes that a chain takes are the most frequent ones.
func wildL9Arguments(r *rand.Rand) l9Arguments {
	x, y := 2, 2
	if r.Intn(6) == 0 {
		x, y = 1+r.Intn(3), 1+r.Intn(3)
	}
	n := 1 + r.Intn(impl.MaxLetters)
	v := l9Arguments{
		n: n, i: 1 + r.Intn(n), k: 1 + r.Intn(16), chainBit: 1 + r.Intn(4),
		code: someBits(r, countStrings(n)), codes: someCodes(r, n, 1+r.Intn(5)), b: wildBox(r, x, y),
	}
	if r.Intn(3) == 0 {
		v.b = someQuietForChain(r)
	}
	v.spoil(r)
	return v
}

func TestLayer9IsTotalAndChangesNothing(t *testing.T) {
	r := rand.New(rand.NewSource(911))
	checkTotal(t, func() l9Arguments { return wildL9Arguments(r) })
}

// The arguments are such that a function could return a part of them as it is: the code is the one that is made, or its scores are
// those of the only code that is shared.
func TestLayer9SharesNoMemory(t *testing.T) {
	boxes := []impl.Box{equalSums(), playBoxByHand(2, 2, []int{0, 1, 0, 1}, 1), boxByTimes(equalSums(), 50)}
	for n := 1; n <= 3; n++ {
		codes := [][]int{
			make([]int, countStrings(n)),
			codeByHand(n, func(letters []int) bool { return 2*sumOf(letters) > n }),
			codeByHand(n, func(letters []int) bool { return sumOf(letters)%2 == 1 }),
		}
		for i := range n {
			codes = append(codes, codeByHand(n, func(letters []int) bool { return letters[i] == 1 }))
		}
		for place, code := range codes {
			v := l9Arguments{n: n, i: 1 + place%n, k: 1 + place, chainBit: 1 + n, code: code, codes: [][]int{code}, b: boxes[place%len(boxes)]}
			checkSharesNothing(t, v)
			v.codes = codes
			checkSharesNothing(t, v)
		}
		v := l9Arguments{n: n, i: 1, k: 16, chainBit: 1, code: codes[0], codes: slices.Repeat(codes, impl.MaxWhole/len(codes)), b: boxes[0]}
		checkSharesNothing(t, v)
	}
}

// The pairs behind those of a result must not be in the memory of another result.
func TestGuessesShareNoMemory(t *testing.T) {
	code := []int{0, 0, 0, 1, 0, 1, 1, 1}
	one, first := impl.CodeGuesses(3, code)
	two, second := impl.CodeGuesses(3, code)
	if !first || !second {
		t.Fatal("CodeGuesses fails")
	}
	for i := range one[:cap(one)] {
		one[:cap(one)][i] = [2]int{99, 99}
	}
	wantPairs(t, "the other guesses", two, second, [2]int{0, 1}, [2]int{0, 1}, [2]int{0, 1})
	wantGuesses(t, 3, code, two...)
}

// Each call makes its code anew.
func TestCodesAreMadeAnew(t *testing.T) {
	calls := map[string]func(n int) ([]int, bool){
		"BestCode":     impl.BestCode,
		"FairCode":     impl.FairCode,
		"MajorityCode": impl.MajorityCode,
		"ParityCode":   impl.ParityCode,
		"BitCode":      func(n int) ([]int, bool) { return impl.BitCode(n, 0) },
	}
	for name, call := range calls {
		for n := 1; n <= 3; n++ {
			one, _ := call(n)
			kept := slices.Clone(one)
			for k := range one[:cap(one)] {
				one[:cap(one)][k] = 1000
			}
			two, ok := call(n)
			wantList(t, fmt.Sprintf("%s(%d), again", name, n), two, ok, kept...)
		}
	}
}
