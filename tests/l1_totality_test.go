package tests

import (
	"math"
	"math/rand"
	"slices"
	"strings"
	"testing"

	"loop.example/g01141/impl"
)

type l1Results struct {
	format, joined, sealed, opened         string
	parsed, sum                            int
	parts                                  []string
	less                                   bool
	formats, parses, splits, joins, summed bool
	seals, opens                           bool
}

func callLayer1(n int, s string, sep string, list []string) l1Results {
	var r l1Results
	r.format, r.formats = impl.FormatInt(n)
	r.parsed, r.parses = impl.ParseInt(s)
	r.parts, r.splits = impl.SplitString(s, sep)
	r.joined, r.joins = impl.JoinStrings(list, sep)
	r.less = impl.LessString(s, sep)
	r.sum, r.summed = impl.Checksum(s)
	r.sealed, r.seals = impl.AppendChecksum(s)
	r.opened, r.opens = impl.VerifyChecksum(s)
	return r
}

func sameResults(a, b l1Results) bool {
	parts := slices.Equal(a.parts, b.parts)
	return parts && a.format == b.format && a.joined == b.joined && a.sealed == b.sealed && a.opened == b.opened &&
		a.parsed == b.parsed && a.sum == b.sum && a.less == b.less && a.formats == b.formats && a.parses == b.parses &&
		a.splits == b.splits && a.joins == b.joins && a.summed == b.summed && a.seals == b.seals && a.opens == b.opens
}

func zeroWhereFailed(r l1Results) bool {
	return (r.formats || r.format == "") && (r.parses || r.parsed == 0) && (r.splits || len(r.parts) == 0) &&
		(r.joins || r.joined == "") && (r.summed || r.sum == 0) && (r.seals || r.sealed == "") && (r.opens || r.opened == "")
}

func someText(r *rand.Rand) string {
	letters := "0123456789-+#,; a\x00\xff"
	size := []int{0, 1, 1, 2, 3, 7, 8, 50, impl.MaxString - 1, impl.MaxString, impl.MaxString + 1, 3 * impl.MaxString}[r.Intn(12)]
	bytes := make([]byte, size)
	for i := range bytes {
		bytes[i] = letters[r.Intn(len(letters))]
	}
	return string(bytes)
}

func someList(r *rand.Rand) []string {
	var list []string
	for range r.Intn(6) {
		list = append(list, someText(r))
	}
	return list
}

// Copies of the arguments are kept aside, bytes included, to see that neither they nor the room behind a list change.
func TestLayer1IsTotalAndChangesNothing(t *testing.T) {
	r := rand.New(rand.NewSource(1))
	for range 3000 {
		n := []int{r.Intn(3*impl.MaxDecimal) - impl.MaxDecimal, int(r.Uint64()), math.MinInt, math.MaxInt}[r.Intn(4)]
		s, sep := someText(r), someText(r)
		if len(sep) > 2 {
			sep = sep[:r.Intn(3)]
		}
		room := append(someList(r), "behind the list")
		list := room[: len(room)-1 : len(room)]
		keptS, keptSep, keptRoom := strings.Clone(s), strings.Clone(sep), slices.Clone(room)
		for i := range keptRoom {
			keptRoom[i] = strings.Clone(keptRoom[i])
		}
		first := callLayer1(n, s, sep, list)
		second := callLayer1(n, s, sep, list)
		if !sameResults(first, second) || !zeroWhereFailed(first) {
			t.Fatalf("results of %d, %.50q, %q, %.200q", n, s, sep, list)
		}
		if s != keptS || sep != keptSep || !slices.Equal(room, keptRoom) {
			t.Fatalf("changed arguments %d, %.50q, %q, %.200q", n, keptS, keptSep, keptRoom)
		}
	}
}

func TestSplitResultsAreNewEachTime(t *testing.T) {
	first, _ := impl.SplitString("a,b,c", ",")
	second, _ := impl.SplitString("a,b,c", ",")
	for i := range first {
		first[i] = "changed"
	}
	third, _ := impl.SplitString("a,b,c", ",")
	if want := []string{"a", "b", "c"}; !slices.Equal(second, want) || !slices.Equal(third, want) {
		t.Errorf("after a change of another result: %q, %q", second, third)
	}
	list := []string{"a", "b", "c"}
	joined, _ := impl.JoinStrings(list, ",")
	list[1] = "changed"
	if joined != "a,b,c" {
		t.Errorf("after a change of the list: %q", joined)
	}
}
