package plan

import (
	"strconv"
	"strings"

	"fanlight/api"
)

// How many digits a number may have: one of a plan, one of an address.
const (
	planDigits    = 5
	addressDigits = 3
)

const maxByte = 255

// marks is what stands in a plan's text ahead of each of its values.
var marks = [...]string{"workers=", " outer=", " ports=", "-", " buckets=", " ring="}

// Text is a Config as a line, "" if it is wrong.
func Text(c Config) string {
	if Wrong(c) != "" {
		return ""
	}
	told := [len(marks)]string{
		strconv.Itoa(c.Workers), Address(c.Outer), strconv.Itoa(c.Lo), strconv.Itoa(c.Hi), strconv.Itoa(c.Buckets), strconv.Itoa(c.Ring),
	}
	var b strings.Builder
	for i, m := range marks {
		b.WriteString(m)
		b.WriteString(told[i])
	}
	return b.String()
}

// Parse is the Config of such a line.
func Parse(text string) (Config, api.Errno) {
	c, ok := read(text)
	switch {
	case !ok:
		return Config{}, api.ErrForm
	case Wrong(c) != "":
		return Config{}, api.ErrArg
	}
	return c, api.OK
}

// Address is an address as four numbers.
func Address(a uint32) string {
	var l []string
	for shift := 24; shift >= 0; shift -= 8 {
		l = append(l, strconv.Itoa(int(a>>shift&maxByte)))
	}
	return strings.Join(l, ".")
}

// ParseAddress is the address of such four numbers.
func ParseAddress(text string) (uint32, bool) {
	// One more than there may be, so that a text of points alone isn't cut wholly.
	l := strings.SplitN(text, ".", 5)
	if len(l) != 4 {
		return 0, false
	}
	a := uint32(0)
	for _, s := range l {
		n, ok := number(s, addressDigits)
		if !ok || n > maxByte {
			return 0, false
		}
		a = a<<8 | uint32(n)
	}
	return a, true
}

// read is the Config of a text that has the form of one: it may be wrong.
func read(text string) (Config, bool) {
	v, ok := values(text)
	if !ok {
		return Config{}, false
	}
	outer, ok := ParseAddress(v[1])
	if !ok {
		return Config{}, false
	}
	n, ok := numbers(v[0], v[2], v[3], v[4], v[5])
	if !ok {
		return Config{}, false
	}
	return Config{Workers: n[0], Outer: outer, Lo: n[1], Hi: n[2], Buckets: n[3], Ring: n[4]}, true
}

// values is what stands behind each mark. No value that is right has a mark in it: so the first one that comes is the one that parts them.
func values(text string) ([]string, bool) {
	var l []string
	for _, m := range marks {
		ahead, behind, ok := strings.Cut(text, m)
		if !ok {
			return nil, false
		}
		l = append(l, ahead)
		text = behind
	}
	return append(l[1:], text), l[0] == ""
}

// numbers is those of a plan, as they are told by texts.
func numbers(texts ...string) ([]int, bool) {
	var l []int
	for _, s := range texts {
		n, ok := number(s, planDigits)
		if !ok {
			return nil, false
		}
		l = append(l, n)
	}
	return l, true
}

// number is one of so many digits at most, with no nought ahead.
func number(text string, most int) (int, bool) {
	hasNought := len(text) > 1 && text[0] == '0'
	if !between(len(text), 1, most) || hasNought {
		return 0, false
	}
	n := 0
	for i := range len(text) {
		if text[i] < '0' || text[i] > '9' {
			return 0, false
		}
		n = n*10 + int(text[i]-'0')
	}
	return n, true
}
