package tests

import (
	"math"
	"strconv"
	"testing"

	"loop.example/g01141/impl"
)

func TestEveryNumberIsWrittenAndReadBack(t *testing.T) {
	for n := -impl.MaxDecimal; n <= impl.MaxDecimal; n++ {
		text, ok := impl.FormatInt(n)
		if want := strconv.Itoa(n); !ok || text != want {
			t.Fatalf("FormatInt(%d) = %q, %v; want %q, true", n, text, ok, want)
		}
		if back, ok := impl.ParseInt(text); !ok || back != n {
			t.Fatalf("ParseInt(%q) = %d, %v; want %d, true", text, back, ok, n)
		}
	}
}

func TestNumbersByHand(t *testing.T) {
	cases := []struct {
		n    int
		text string
	}{
		{0, "0"}, {7, "7"}, {-1, "-1"}, {-12, "-12"}, {10, "10"}, {100000, "100000"},
		{999998, "999998"}, {999999, "999999"}, {-999998, "-999998"}, {-999999, "-999999"},
	}
	for _, c := range cases {
		if text, ok := impl.FormatInt(c.n); !ok || text != c.text {
			t.Errorf("FormatInt(%d) = %q, %v; want %q, true", c.n, text, ok, c.text)
		}
		if n, ok := impl.ParseInt(c.text); !ok || n != c.n {
			t.Errorf("ParseInt(%q) = %d, %v; want %d, true", c.text, n, ok, c.n)
		}
	}
}

func TestNumbersBeyondTheLimitFail(t *testing.T) {
	for _, n := range []int{
		1000000, -1000000, 1000001, -1000001, 9999999, -9999999,
		math.MaxInt32, math.MinInt32, 1 << 32, -(1 << 32), math.MaxInt, math.MinInt, math.MinInt + 1,
	} {
		if text, ok := impl.FormatInt(n); ok || text != "" {
			t.Errorf("FormatInt(%d) = %q, %v; want \"\", false", n, text, ok)
		}
		if back, ok := impl.ParseInt(strconv.Itoa(n)); ok || back != 0 {
			t.Errorf("ParseInt(%d) = %d, %v; want 0, false", n, back, ok)
		}
	}
}

func TestTextsThatAreNoNumbersFail(t *testing.T) {
	for _, s := range []string{
		"", "-", "+", "--", "+1", "+0", "-0", "00", "01", "-01", "-00", "000001", "0999999", "00000000000000000001",
		"--1", "-+1", "+-1", "1-", "1+", " 1", "1 ", "1\n", "\t1", "- 1", "1 2", "1,000", "1_000", "_1", "1_",
		"1x", "x1", "x", "0x1", "0b1", "0o7", "1e3", "1.0", "1.", ".1", "NaN", "Inf", "\x00", "1\x00", "\x001", "\xff",
		"\u0661", "\uff11", "\u22121", "/", ":", "18446744073709551616", "18446744073709551617",
		"99999999999999999999999999999999999999", "-99999999999999999999999999999999999999",
		text(4000, '1'), text(100000, '0'),
	} {
		if n, ok := impl.ParseInt(s); ok || n != 0 {
			t.Errorf("ParseInt(%.50q) = %d, %v; want 0, false", s, n, ok)
		}
	}
}

// Of all short texts, just those are numbers that the decimal form of some number equals.
func TestShortTextsAreNumbersExactlyIfWritten(t *testing.T) {
	written := map[string]int{}
	for n := -99; n <= 999; n++ {
		written[strconv.Itoa(n)] = n
	}
	for _, s := range allTexts("0123456789-+ #,ax\x00\xff", 3) {
		want, is := written[s]
		if n, ok := impl.ParseInt(s); ok != is || n != want {
			t.Errorf("ParseInt(%q) = %d, %v; want %d, %v", s, n, ok, want, is)
		}
	}
}
