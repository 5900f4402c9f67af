package tests

import "strings"

func text(size int, b byte) string {
	return strings.Repeat(string([]byte{b}), size)
}

// mixedText has all byte values but the one left out, in no simple order, so that places can be told apart.
func mixedText(size int, without byte) string {
	bytes := make([]byte, size)
	for i := range bytes {
		bytes[i] = byte(i*i*7 + i*31 + i/256)
		if bytes[i] == without {
			bytes[i]++
		}
	}
	return string(bytes)
}

// allTexts returns all texts of at most size bytes of the letters, the empty one first.
func allTexts(letters string, size int) []string {
	texts := []string{""}
	last := texts
	for range size {
		var longer []string
		for _, s := range last {
			for i := range len(letters) {
				longer = append(longer, s+letters[i:i+1])
			}
		}
		texts = append(texts, longer...)
		last = longer
	}
	return texts
}

func withByte(s string, place int, b byte) string {
	bytes := []byte(s)
	bytes[place] = b
	return string(bytes)
}
