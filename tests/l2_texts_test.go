package tests

import (
	"math/rand"
	"regexp"
	"strconv"
	"strings"
	"testing"

	"loop.example/g01141/impl"
)

func textByHand(b impl.Box) string {
	s := strconv.Itoa(b.X) + " " + strconv.Itoa(b.Y)
	for _, row := range b.Rows {
		for i, n := range row {
			s += " ,,,"[i:i+1] + strconv.Itoa(n)
		}
	}
	return s
}

func checkText(t *testing.T, b impl.Box) {
	t.Helper()
	s, ok := impl.BoxText(b)
	if want := textByHand(b); !ok || s != want {
		t.Fatalf("BoxText(%v) = %q, %v; want %q, true", b, s, ok, want)
	}
	back, ok := impl.ParseBox(s)
	wantBox(t, "ParseBox("+s+")", back, ok, b)
}

func TestTextsThereAndBack(t *testing.T) {
	for _, c := range []struct{ x, y, whole int }{{1, 1, 1}, {1, 1, 12}, {1, 2, 3}, {2, 1, 3}, {2, 2, 1}, {3, 1, 2}} {
		for _, b := range allBoxes(c.x, c.y, c.whole) {
			checkText(t, b)
		}
	}
	r := rand.New(rand.NewSource(17))
	for _, size := range allSizes() {
		checkText(t, markedBox(size[0], size[1], 1000))
		for _, whole := range []int{1, 9, 10, 99, 100, 999, 1000} {
			checkText(t, playBoxByHand(size[0], size[1], someBits(r, size[0]+size[1]), whole))
		}
		for range 300 {
			checkText(t, someBox(r, size[0], size[1]))
		}
	}
}

func TestTextsByHand(t *testing.T) {
	for s, want := range map[string]impl.Box{
		"1 1 0,0,0,1":                         box(1, 1, 1, []int{0, 0, 0, 1}),
		"1 1 1000,0,0,0":                      box(1, 1, 1000, []int{1000, 0, 0, 0}),
		"1 1 250,250,250,250":                 box(1, 1, 1000, []int{250, 250, 250, 250}),
		"1 2 1,2,3,4 0,10,0,0":                box(1, 2, 10, []int{1, 2, 3, 4}, []int{0, 10, 0, 0}),
		"2 1 1,2,3,4 0,10,0,0":                box(2, 1, 10, []int{1, 2, 3, 4}, []int{0, 10, 0, 0}),
		"2 2 1,0,0,1 1,0,0,1 1,0,0,1 0,1,1,0": box(2, 2, 2, []int{1, 0, 0, 1}, []int{1, 0, 0, 1}, []int{1, 0, 0, 1}, []int{0, 1, 1, 0}),
	} {
		text, ok := impl.BoxText(want)
		if !ok || text != s {
			t.Errorf("BoxText(%v) = %q, %v; want %q, true", want, text, ok, s)
		}
		b, ok := impl.ParseBox(s)
		wantBox(t, "ParseBox("+s+")", b, ok, want)
	}
}

var boxPattern = regexp.MustCompile(`\A[123] [123]( (0|[1-9][0-9]*)(,(0|[1-9][0-9]*)){3})+\z`)

// readByHand reads a text that is written as BoxText would, and fails for others.
func readByHand(s string) (impl.Box, bool) {
	if !boxPattern.MatchString(s) {
		return impl.Box{}, false
	}
	words := strings.Split(s, " ")
	b := impl.Box{X: int(words[0][0] - '0'), Y: int(words[1][0] - '0')}
	for _, word := range words[2:] {
		sum := 0
		var row []int
		for _, digits := range strings.Split(word, ",") {
			n, err := strconv.Atoi(digits)
			if err != nil || n > 1000 {
				return impl.Box{}, false
			}
			row = append(row, n)
			sum += n
		}
		if b.Whole == 0 {
			b.Whole = sum
		}
		if sum != b.Whole || sum == 0 || sum > 1000 {
			return impl.Box{}, false
		}
		b.Rows = append(b.Rows, row)
	}
	return b, len(b.Rows) == b.X*b.Y
}

func checkRead(t *testing.T, s string) bool {
	t.Helper()
	b, ok := impl.ParseBox(s)
	want, is := readByHand(s)
	if is {
		wantBox(t, "ParseBox("+s+")", b, ok, want)
	} else {
		wantNoBox(t, "ParseBox("+strconv.Quote(s[:min(len(s), 300)])+")", b, ok)
	}
	return ok
}

// Of all texts with one byte changed, left out or put in, just those are read that could have been written.
func TestTextsWithOneByteChanged(t *testing.T) {
	read := 0
	for _, s := range []string{
		"1 1 0,0,0,1", "1 1 1000,0,0,0", "1 1 1,2,3,4", "1 2 1,2,3,4 0,10,0,0", "3 1 1,0,0,0 0,1,0,0 0,0,1,0",
		"2 2 1,0,0,1 1,0,0,1 1,0,0,1 0,1,1,0", "1 1 10,0,0,0",
	} {
		for place := range len(s) + 1 {
			for b := range 256 {
				letter := string([]byte{byte(b)})
				if checkRead(t, s[:place]+letter+s[place:]) {
					read++
				}
				if place < len(s) && checkRead(t, s[:place]+letter+s[place+1:]) {
					read++
				}
			}
			if place < len(s) && checkRead(t, s[:place]+s[place+1:]) {
				read++
			}
		}
	}
	if read < 100 {
		t.Errorf("only %d changed texts were read", read)
	}
}

func TestShortTextsOfOneRow(t *testing.T) {
	for _, s := range allTexts("01,- ", 6) {
		checkRead(t, "1 1 "+s)
		checkRead(t, "1 1 0,0"+s)
		checkRead(t, s+"1,0,0,0")
	}
}

func TestTextsThatNoBoxHas(t *testing.T) {
	nine := strings.Repeat(" 1,0,0,0", 9)
	for _, s := range []string{
		"", " ", "  ", ",", "1", "1 1", "1 1 ", "1 1  ", "2 2", "box", "1,0,0,0", "0 0", "0 0 1,0,0,0", "0 1", "0 1 1,0,0,0", "1 0 1,0,0,0",
		" 1 1 1,0,0,0", "1 1 1,0,0,0 ", "1  1 1,0,0,0", "1 1  1,0,0,0", "1 1\t1,0,0,0", "1 1 1,0,0,0\n", "\n1 1 1,0,0,0", "1\n1\n1,0,0,0",
		"1,1 1,0,0,0", "1 1,1,0,0,0", "1 1 1;0;0;0", "1 1 1 0 0 0", "1 1 1,0 0,0", "1 1 1, 0,0,0", "1 1 1 ,0,0,0", "1 1 ,1,0,0,0", "1 1 1,0,0,0,",
		"1 1 1,,0,0", "1 1 ,,,", "1 1 1,0,0,", "1 1 1,0,0", "1 1 1,0,0,0,0", "1 1 1", "1 2 1,0,0,0", "2 1 1,0,0,0", "2 2 1,0,0,0 1,0,0,0 1,0,0,0",
		"1 1 1,0,0,0 1,0,0,0", "1 2 1,0,0,0 1,0,0,0 1,0,0,0", "1 2 1,0,0,0  1,0,0,0", "1 2 1,0,0,0,1,0,0,0", "1 2 1,0,0,0 1,0,0,0 ",
		"01 1 1,0,0,0", "1 01 1,0,0,0", "+1 1 1,0,0,0", "1 +1 1,0,0,0", "-1 1 1,0,0,0", "-1 -1 1,0,0,0", "1 -1 1,0,0,0", "1 1 01,0,0,0",
		"1 1 1,00,0,0", "1 1 1,0,0,-0", "1 1 1,0,0,+0", "1 1 +1,0,0,0", "1 1 2,-1,0,0", "1 1 -1,2,0,0", "1 1 -1,0,0,0", "1 1 0,0,0,0", "1 1 1001,0,0,0",
		"1 1 1000,1,0,0", "1 1 500,500,1,0", "1 1 999999,0,0,0", "1 1 1000000,0,0,0", "1 1 18446744073709551617,0,0,0", "1 1 9223372036854775807,9223372036854775807,3,0",
		"1 2 1,0,0,0 2,0,0,0", "1 2 1,0,0,0 0,0,0,0", "1 2 0,0,0,0 1,0,0,0", "1 2 0,0,0,0 0,0,0,0", "1 2 1,0,0,0 1,1,0,0", "1 2 2,0,0,0 3,-1,0,0",
		"4 1 1,0,0,0 1,0,0,0 1,0,0,0 1,0,0,0", "1 4 1,0,0,0 1,0,0,0 1,0,0,0 1,0,0,0", "3 4" + nine, "9 1" + nine, "1 9" + nine, "3 3" + nine[8:], "3 3" + nine + " 1,0,0,0",
		"3 3" + strings.Repeat(" 1,0,0,0", 1000), "1 1 1" + strings.Repeat(",0", 1990), "1 1 " + text(3990, '1'), "1 1 1,0,0,0" + text(100000, ' '),
		"3 3" + strings.Repeat(" 1,0,0,0", 8) + " 1,0,0", "3 3" + strings.Repeat(" 1,0,0,0", 8) + " 1,0,0,1", "3 3" + strings.Repeat(" 1,0,0,0", 8) + " 1,0,0,x",
		"x 1 1,0,0,0", "1 x 1,0,0,0", "1 1 x,0,0,0", "1 1 1,0,0,x", "1 1 a", "1.0 1 1,0,0,0", "1 1 1e0,0,0,0", "1 1 0x1,0,0,0", "1 1 1_0,0,0,0", "1 1 \uff11,0,0,0",
	} {
		if checkRead(t, s) {
			t.Errorf("ParseBox(%.300q) is a Box", s)
		}
	}
	if !checkRead(t, "3 3"+nine) {
		t.Error("a text of nine rows was not read")
	}
}
