package tests

import (
	"math/big"
	"strconv"
	"strings"
	"testing"

	"loop.example/g01141/impl"
)

// checksumOf has the whole sum as one number, and takes the remainder just once.
func checksumOf(s string) int {
	sum := big.NewInt(7)
	for i := range len(s) {
		sum.Mul(sum, big.NewInt(41))
		sum.Add(sum, big.NewInt(int64(s[i])+1))
	}
	return int(sum.Mod(sum, big.NewInt(999979)).Int64())
}

func wantNotSealed(t *testing.T, s string) {
	t.Helper()
	if sealed, ok := impl.AppendChecksum(s); ok || sealed != "" {
		t.Errorf("AppendChecksum of %d bytes %.50q = %.50q, %v; want \"\", false", len(s), s, sealed, ok)
	}
}

func wantNotOpened(t *testing.T, s string) {
	t.Helper()
	if opened, ok := impl.VerifyChecksum(s); ok || opened != "" {
		t.Errorf("VerifyChecksum of %d bytes %.50q = %.50q, %v; want \"\", false", len(s), s, opened, ok)
	}
}

func mustSeal(t *testing.T, s string) string {
	t.Helper()
	sealed, ok := impl.AppendChecksum(s)
	if want := s + "#" + strconv.Itoa(checksumOf(s)); !ok || sealed != want {
		t.Fatalf("AppendChecksum of %d bytes %.50q = %.50q, %v; want %.50q, true", len(s), s, sealed, ok, want)
	}
	if opened, ok := impl.VerifyChecksum(sealed); !ok || opened != s {
		t.Fatalf("VerifyChecksum of %d bytes %.50q = %.50q, %v; want %.50q, true", len(sealed), sealed, opened, ok, s)
	}
	return sealed
}

func TestChecksumByHand(t *testing.T) {
	for s, want := range map[string]int{
		"":         7,
		"a":        385,    // 41*7 + 98
		"\x00":     288,    // 41*7 + 1
		"\xff":     543,    // 41*7 + 256
		"ab":       15884,  // 41*385 + 99
		"abc":      651344, // 41*15884 + 100
		"abcd":     705751, // 41*651344 + 101 is 26705205, less 26 times 999979
		"#":        323,
		"\x00\x00": 11809,
	} {
		if sum, ok := impl.Checksum(s); !ok || sum != want {
			t.Errorf("Checksum(%q) = %d, %v; want %d, true", s, sum, ok, want)
		}
	}
}

func TestChecksumIsTheRemainder(t *testing.T) {
	texts := allTexts("aZ#\x00\xff", 5)
	for size := 0; size <= impl.MaxString; size += 250 {
		texts = append(texts, mixedText(size, '#'), text(size, 0xff), text(size, 0))
	}
	for _, s := range texts {
		if sum, ok := impl.Checksum(s); !ok || sum != checksumOf(s) {
			t.Errorf("Checksum of %d bytes %.50q = %d, %v; want %d, true", len(s), s, sum, ok, checksumOf(s))
		}
	}
}

func TestChecksumUpToMaxString(t *testing.T) {
	for _, b := range []byte{0, 'a', 0xff} {
		s := text(impl.MaxString, b)
		if sum, ok := impl.Checksum(s); !ok || sum != checksumOf(s) {
			t.Errorf("Checksum of MaxString bytes %d = %d, %v", b, sum, ok)
		}
		for _, size := range []int{impl.MaxString + 1, impl.MaxString + 2, 10 * impl.MaxString} {
			if sum, ok := impl.Checksum(text(size, b)); ok || sum != 0 {
				t.Errorf("Checksum of %d bytes %d = %d, %v; want 0, false", size, b, sum, ok)
			}
		}
	}
}

func TestSealAndOpen(t *testing.T) {
	if sealed := mustSeal(t, "a"); sealed != "a#385" {
		t.Errorf("sealed %q", sealed)
	}
	if sealed := mustSeal(t, ""); sealed != "#7" {
		t.Errorf("sealed %q", sealed)
	}
	for _, s := range allTexts("a1 -@\x00\xff\n", 4) {
		mustSeal(t, s)
	}
	for size := 0; size <= 3900; size += 300 {
		mustSeal(t, mixedText(size, '#'))
	}
}

func TestSealRejectsTheMark(t *testing.T) {
	for _, s := range []string{"#", "##", "a#", "#a", "a#b", "a#385", "#7", text(100, 'a') + "#", "#" + text(100, 'a')} {
		wantNotSealed(t, s)
		wantNotOpened(t, s+"#"+strconv.Itoa(checksumOf(s)))
	}
}

// The checksum has mostly six digits and sometimes fewer, so that several texts of each length are tried.
func TestSealUpToMaxString(t *testing.T) {
	seen := map[int]bool{}
	for size := impl.MaxString - 8; size <= impl.MaxString; size++ {
		for b := range 20 {
			s := text(size-1, 'a'+byte(b)) + "z"
			sum := strconv.Itoa(checksumOf(s))
			length := size + 1 + len(sum)
			seen[length] = true
			if length <= impl.MaxString {
				mustSeal(t, s)
			} else {
				wantNotSealed(t, s)
				wantNotOpened(t, s+"#"+sum)
			}
		}
	}
	if !seen[impl.MaxString-1] || !seen[impl.MaxString] || !seen[impl.MaxString+1] {
		t.Error("no result of a length just at the limit was tried")
	}
	for _, size := range []int{impl.MaxString, impl.MaxString + 1, 100 * impl.MaxString} {
		wantNotSealed(t, text(size, 'a'))
		wantNotOpened(t, text(size, 'a')+"#1")
	}
}

func TestOpenRejectsWhatIsNotSealed(t *testing.T) {
	for _, s := range []string{
		"", "#", "##", "a", "7", "a#", "#a", "#0", "#07", "#+7", "#-7", "#7 ", " #7", "#7#", "##7", "#7#7",
		"a#384", "a#386", "a#0385", "a#+385", "a#-385", "a# 385", "a#385 ", "a#385\n", "a#3855", "a#38", "a##385", "a#385#",
		"a#385#1", "b#385", "A#385", "a385", "a#1000364", "a#x", "a#3x5", "385#a",
		text(impl.MaxString, '#'), text(impl.MaxString+1, '#'), text(impl.MaxString, '7'), "#" + text(impl.MaxString, '7'),
	} {
		wantNotOpened(t, s)
	}
}

func TestEachChangedByteIsFound(t *testing.T) {
	for _, s := range []string{
		"", "a", "#", "ab", "0", "7", "385", "0 box@1 1 2", "\x00\xff\x00", "abcabcabc", mixedText(40, '#'),
		text(40, 'a'), text(40, 0), text(40, 0xff),
	} {
		s = strings.ReplaceAll(s, "#", "")
		sealed := mustSeal(t, s)
		for place := range len(sealed) {
			for b := range 256 {
				if byte(b) != sealed[place] {
					wantNotOpened(t, withByte(sealed, place, byte(b)))
				}
			}
		}
	}
}

func TestEachChangedByteOfALongTextIsFound(t *testing.T) {
	sealed := mustSeal(t, mixedText(impl.MaxString-7, '#'))
	for place := range len(sealed) {
		for _, change := range []byte{1, 2, 16, 128, 255, 41, 164} {
			wantNotOpened(t, withByte(sealed, place, sealed[place]+change))
		}
		if sealed[place] != '#' {
			wantNotOpened(t, withByte(sealed, place, '#'))
		}
	}
}

func TestCutAndLengthenedTextsAreFound(t *testing.T) {
	sealed := mustSeal(t, "0 box@1 1 2")
	for size := range len(sealed) {
		wantNotOpened(t, sealed[:size])
		wantNotOpened(t, sealed[len(sealed)-size:])
	}
	for b := range 256 {
		wantNotOpened(t, sealed+string([]byte{byte(b)}))
		wantNotOpened(t, string([]byte{byte(b)})+sealed)
	}
}
