package tests

import (
	"slices"
	"strings"
	"testing"

	"loop.example/g01141/impl"
)

func wantSplit(t *testing.T, s string, sep string, want []string) {
	t.Helper()
	if parts, ok := impl.SplitString(s, sep); !ok || !slices.Equal(parts, want) {
		t.Errorf("SplitString(%.50q, %q) = %.200q, %v; want %.200q, true", s, sep, parts, ok, want)
	}
	if joined, ok := impl.JoinStrings(want, sep); !ok || joined != s {
		t.Errorf("JoinStrings(%.200q, %q) = %.50q, %v; want %.50q, true", want, sep, joined, ok, s)
	}
}

func wantNoSplit(t *testing.T, s string, sep string) {
	t.Helper()
	if parts, ok := impl.SplitString(s, sep); ok || len(parts) != 0 {
		t.Errorf("SplitString of %d bytes by %q = %d parts, %v; want none, false", len(s), sep, len(parts), ok)
	}
}

func wantNoJoin(t *testing.T, parts []string, sep string) {
	t.Helper()
	if joined, ok := impl.JoinStrings(parts, sep); ok || joined != "" {
		t.Errorf("JoinStrings of %d parts by %q = %.50q, %v; want \"\", false", len(parts), sep, joined, ok)
	}
}

func TestSplitAndJoinByHand(t *testing.T) {
	wantSplit(t, "", ",", []string{""})
	wantSplit(t, ",", ",", []string{"", ""})
	wantSplit(t, ",,", ",", []string{"", "", ""})
	wantSplit(t, "a", ",", []string{"a"})
	wantSplit(t, "a,,b", ",", []string{"a", "", "b"})
	wantSplit(t, "a;;b", ";", []string{"a", "", "b"})
	wantSplit(t, ",a", ",", []string{"", "a"})
	wantSplit(t, "a,", ",", []string{"a", ""})
	wantSplit(t, "a,b;c", ";", []string{"a,b", "c"})
	wantSplit(t, "one two three", " ", []string{"one", "two", "three"})
	wantSplit(t, "a\nb\n", "\n", []string{"a", "b", ""})
	wantSplit(t, "a\x00b", "\x00", []string{"a", "b"})
	wantSplit(t, "a\xffb", "\xff", []string{"a", "b"})
	wantSplit(t, "-1.5", ".", []string{"-1", "5"})
}

// A letter of several bytes is no unit: each of its bytes can be a separator of its own.
func TestSplitSeparatesBytes(t *testing.T) {
	wantSplit(t, "\u00e9", "\xa9", []string{"\xc3", ""})
	wantSplit(t, "\u00e9", "\xc3", []string{"", "\xa9"})
	wantSplit(t, "a\xffb\xfec", "\xfe", []string{"a\xffb", "c"})
	wantSplit(t, "\ufffd", "\xff", []string{"\ufffd"})
}

func TestSplitAndJoinByEachByte(t *testing.T) {
	for b := range 256 {
		sep := string([]byte{byte(b)})
		part := mixedText(300, byte(b))
		wantSplit(t, part, sep, []string{part})
		wantSplit(t, part+sep+sep+part, sep, []string{part, "", part})
		wantNoJoin(t, []string{part + sep}, sep)
	}
}

func TestSplitAndJoinOfAllShortTexts(t *testing.T) {
	for _, s := range allTexts("ab,;\xff", 5) {
		for _, sep := range []string{",", ";", "\xff", "a", "x"} {
			parts, ok := impl.SplitString(s, sep)
			if !ok || len(parts) != strings.Count(s, sep)+1 {
				t.Fatalf("SplitString(%q, %q) = %q, %v", s, sep, parts, ok)
			}
			for _, part := range parts {
				if strings.Contains(part, sep) {
					t.Fatalf("SplitString(%q, %q) leaves the separator in %q", s, sep, part)
				}
			}
			if back, ok := impl.JoinStrings(parts, sep); !ok || back != s {
				t.Fatalf("JoinStrings(%q, %q) = %q, %v; want %q, true", parts, sep, back, ok, s)
			}
		}
	}
}

func TestSplitUpToMaxString(t *testing.T) {
	most := impl.MaxString
	wantSplit(t, text(most, 'a'), ",", []string{text(most, 'a')})
	wantSplit(t, text(most, ','), ",", make([]string, most+1))
	wantSplit(t, text(most-1, 'a')+",", ",", []string{text(most-1, 'a'), ""})
	wantSplit(t, mixedText(most/2, ';')+";"+mixedText(most/2-1, ';'), ";",
		[]string{mixedText(most/2, ';'), mixedText(most/2-1, ';')})
	for _, size := range []int{most + 1, most + 2, 2 * most, 100 * most} {
		wantNoSplit(t, text(size, 'a'), ",")
		wantNoSplit(t, text(size, ','), ",")
	}
}

func TestSeparatorsAreOneByte(t *testing.T) {
	for _, sep := range []string{"", ",,", ",;", "\u00e9", "\u20ac", "ab", text(impl.MaxString+1, ',')} {
		for _, s := range []string{"", "a", "a,,b", "\u00e9", "ab", text(impl.MaxString+1, ',')} {
			wantNoSplit(t, s, sep)
			wantNoJoin(t, []string{s}, sep)
		}
		wantNoJoin(t, []string{"x", "y"}, sep)
		wantNoJoin(t, nil, sep)
	}
}

func TestNothingToJoinFails(t *testing.T) {
	for _, sep := range []string{",", "\x00", "\xff", "", ",,"} {
		wantNoJoin(t, nil, sep)
		wantNoJoin(t, []string{}, sep)
	}
}

func TestJoinRejectsSeparatorsWithin(t *testing.T) {
	for _, part := range []string{",", ",a", "a,", "a,b", ",,", text(impl.MaxString-1, 'a') + ","} {
		wantNoJoin(t, []string{part}, ",")
		wantNoJoin(t, []string{part, "x"}, ",")
		wantNoJoin(t, []string{"x", part}, ",")
		wantNoJoin(t, []string{"x", part, "y"}, ",")
		wantNoJoin(t, []string{"", "", part}, ",")
	}
	wantSplit(t, "a,b;", ";", []string{"a,b", ""})
}

func TestJoinUpToMaxString(t *testing.T) {
	most := impl.MaxString
	wantSplit(t, text(most-2, 'a')+",b", ",", []string{text(most-2, 'a'), "b"})
	wantSplit(t, "b,"+text(most-2, 'a'), ",", []string{"b", text(most-2, 'a')})
	wantSplit(t, ","+text(most-1, 'a'), ",", []string{"", text(most-1, 'a')})
	wantNoJoin(t, []string{text(most+1, 'a')}, ",")
	wantNoJoin(t, []string{text(most, 'a'), ""}, ",")
	wantNoJoin(t, []string{"", text(most, 'a')}, ",")
	wantNoJoin(t, []string{text(most-2, 'a'), "bc"}, ",")
	wantNoJoin(t, []string{text(most-2, 'a'), "b", ""}, ",")
	wantNoJoin(t, make([]string, most+2), ",")
	wantNoJoin(t, make([]string, 100*most), ",")
	wantNoJoin(t, slices.Repeat([]string{text(1<<20, 'a')}, 1000), ",")
}

func TestLessString(t *testing.T) {
	ascending := []string{
		"", "\x00", "\x00\x00", "\x00a", " ", "#", "1", "10", "2", "A", "B", "a", "a\x00", "aB", "aa", "ab", "abc", "b",
		"z", "\x7f", "\x80", "\xc3\xa9", "\xff", "\xff\x00", "\xff\xff",
	}
	for i, a := range ascending {
		for j, b := range ascending {
			if less := impl.LessString(a, b); less != (i < j) {
				t.Errorf("LessString(%q, %q) = %v", a, b, less)
			}
		}
	}
	long := text(2*impl.MaxString, 'a')
	if !impl.LessString(long, long+"\x00") || impl.LessString(long+"\x00", long) || impl.LessString(long, long) {
		t.Error("a long text and its prefix")
	}
	if !impl.LessString(long+"a", long+"b") || impl.LessString(long+"b", long+"a") {
		t.Error("long texts with another last byte")
	}
}
