package shell

import (
	"strconv"
	"strings"
)

// How great a number may be that a line has, and how many signs bytes may have.
const (
	mostNumber = 999_999_999 // nine digits
	mostSigns  = 3000
)

// signs is those by which bytes are told, two for each.
const signs = "0123456789abcdef"

// number is the one that a word tells. It is so only if it is told by just that word: nothing may stand ahead of it.
func number(word string) (int, bool) {
	n, err := strconv.Atoi(word)
	if err != nil || n < 0 || n > mostNumber || strconv.Itoa(n) != word {
		return 0, false
	}
	return n, true
}

// numbers is those of so many words, if there are just so many.
func numbers(words []string, count int) ([]int, bool) {
	if len(words) != count {
		return nil, false
	}
	l := make([]int, count)
	for i, w := range words {
		n, ok := number(w)
		if !ok {
			return nil, false
		}
		l[i] = n
	}
	return l, true
}

// bytesOf is the bytes that words tell. No bytes are told by no word: an empty one tells nothing.
func bytesOf(words []string) ([]byte, bool) {
	switch len(words) {
	case 0:
		return nil, true
	case 1:
		return pairs(words[0])
	}
	return nil, false
}

// pairs is the bytes that a word's pairs of signs tell.
func pairs(word string) ([]byte, bool) {
	if len(word) == 0 || len(word) > mostSigns || len(word)%2 != 0 {
		return nil, false
	}
	b := make([]byte, 0, len(word)/2)
	for i := 0; i < len(word); i += 2 {
		high, low := strings.IndexByte(signs, word[i]), strings.IndexByte(signs, word[i+1])
		if high < 0 || low < 0 {
			return nil, false
		}
		b = append(b, byte(high<<4|low))
	}
	return b, true
}

// hex is bytes as such a word.
func hex(b []byte) string {
	var t strings.Builder
	for _, x := range b {
		t.WriteByte(signs[x>>4])
		t.WriteByte(signs[x&15])
	}
	return t.String()
}
