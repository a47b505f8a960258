package audit

import (
	"math"
	"slices"
	"strconv"
	"strings"

	"fanlight/api"
	"fanlight/nat"
)

// Text is rows in lines; those that go on alike are in one.
func Text(rows []Row) []string {
	var l []string
	for len(rows) > 0 {
		n := alike(rows)
		l = append(l, line(rows[:n]))
		rows = rows[n:]
	}
	return l
}

// alike is how many rows go on as the first one begins.
func alike(rows []Row) int {
	n := 1
	for n < len(rows) && goesOn(rows[n-1], rows[n]) {
		n++
	}
	return n
}

// goesOn tells whether b may stand in one line with a, which is ahead of it. Behind the greatest port there is none.
func goesOn(a, b Row) bool {
	return a.Proto == b.Proto && a.Port < math.MaxInt && a.Port+1 == b.Port && slices.Equal(a.Claims, b.Claims)
}

// line is rows that are alike.
func line(rows []Row) string {
	first, last := rows[0], rows[len(rows)-1]
	ports := strconv.Itoa(first.Port)
	if len(rows) > 1 {
		ports += "-" + strconv.Itoa(last.Port)
	}
	return protoText(first.Proto) + " " + ports + " " + claimsText(first.Claims)
}

func protoText(proto int) string {
	switch proto {
	case api.Icmp:
		return "icmp"
	case api.Tcp:
		return "tcp"
	case api.Udp:
		return "udp"
	}
	return strconv.Itoa(proto)
}

func claimsText(claims []nat.Claim) string {
	if len(claims) == 0 {
		return "nobody"
	}
	l := make([]string, len(claims))
	for i, c := range claims {
		l[i] = claimText(c)
	}
	return strings.Join(l, " and ")
}

func claimText(c nat.Claim) string {
	switch c.Kind {
	case nat.Pooled:
		return "pool"
	case nat.Cached:
		return "cache " + strconv.Itoa(c.Worker)
	case nat.Bound:
		return "bound"
	case nat.Retired:
		return "retired " + strconv.Itoa(c.Worker)
	}
	return "kind " + strconv.Itoa(c.Kind)
}
