package shell

import (
	"strconv"
	"strings"

	"fanlight/api"
	"fanlight/audit"
	"fanlight/drive"
	"fanlight/plan"
	"fanlight/track"
)

// deed is what a line asks for: it is done to a Drive, and tells something. It is known ahead of whether there is a Drive, as a line that can't be is told so without one, too.
type deed func(d *drive.Drive) []string

const (
	mostWords = 3
	mostPicks = 10000
)

// asked is what a line asks for, but for a plan; nil: it can't be.
func asked(line string) deed {
	// One more than there may be, so that a text of blanks alone isn't cut wholly.
	words := strings.SplitN(line, " ", mostWords+1)
	more := words[1:]
	switch words[0] {
	case "out":
		return putting(true, more)
	case "in":
		return putting(false, more)
	case "tick":
		return ticking(more)
	case "pick":
		return picking(more)
	}
	if len(more) > 0 {
		return nil
	}
	return single(words[0])
}

// single is what a line of one word asks for.
func single(word string) deed {
	switch word {
	case "rest":
		return rest
	case "free":
		return free
	case "outs":
		return outs
	case "bindings":
		return bindings
	case "ports":
		return ports
	case "counts":
		return counts
	}
	return nil
}

// putting lets a frame come.
func putting(out bool, words []string) deed {
	frame, ok := bytesOf(words)
	if !ok {
		return nil
	}
	return func(d *drive.Drive) []string {
		n, w, e := d.Put(out, frame)
		if e != api.OK {
			return []string{"full " + strconv.Itoa(w)}
		}
		return []string{"frame " + strconv.Itoa(n) + " worker " + strconv.Itoa(w)}
	}
}

// ticking lets time go by.
func ticking(words []string) deed {
	n, ok := numbers(words, 1)
	if !ok {
		return nil
	}
	return func(d *drive.Drive) []string {
		if d.Tick(n[0]) != api.OK {
			return []string{"no tick"}
		}
		return []string{"tick " + strconv.Itoa(d.Now())}
	}
}

// picking lets a worker do some steps. Whether there is such a worker is known only of a Drive.
func picking(words []string) deed {
	n, ok := numbers(words, 2)
	if !ok || n[1] > mostPicks {
		return nil
	}
	return func(d *drive.Drive) []string {
		if n[0] >= workers(d) {
			return []string{what}
		}
		for range n[1] {
			d.Pick(n[0])
		}
		return []string{"picked"}
	}
}

func rest(d *drive.Drive) []string {
	d.Rest()
	return []string{"rest"}
}

func free(d *drive.Drive) []string {
	if d.Free() {
		return []string{"free"}
	}
	return []string{"no"}
}

// outs is what came of all frames that are done.
func outs(d *drive.Drive) []string {
	var l []string
	for w := range workers(d) {
		for _, o := range d.Outs(w) {
			l = append(l, strconv.Itoa(w)+" "+outText(o))
		}
	}
	return l
}

func outText(o drive.Out) string {
	number := strconv.Itoa(o.Number)
	if o.Answer.Err != api.OK {
		return number + " drop " + strconv.Itoa(int(o.Answer.Err))
	}
	return number + " sent " + hex(o.Answer.Frame)
}

func bindings(d *drive.Drive) []string {
	var l []string
	for _, b := range d.Nat().Bindings() {
		l = append(l, flowText(b.Flow)+" "+strconv.Itoa(b.Port)+" "+track.Text(b.Track)+" "+strconv.Itoa(b.Seen))
	}
	return l
}

func flowText(f api.Flow) string {
	return protoText(f.Proto) + " " + plan.Address(f.Addr) + ":" + strconv.Itoa(int(f.Port))
}

// protoText is one of the protocols that a binding may have.
func protoText(proto int) string {
	switch proto {
	case api.Icmp:
		return "icmp"
	case api.Tcp:
		return "tcp"
	}
	return "udp"
}

func ports(d *drive.Drive) []string { return audit.Text(audit.Look(d.Nat())) }

func counts(d *drive.Drive) []string {
	c := d.Counts()
	return []string{
		"came " + strconv.Itoa(c.Came) +
			" full " + strconv.Itoa(c.Full) +
			" sent " + strconv.Itoa(c.Sent) +
			" dropped " + strconv.Itoa(c.Dropped) +
			" ended " + strconv.Itoa(c.Ended),
	}
}

// workers is how many a Drive has.
func workers(d *drive.Drive) int { return d.Nat().Config().Workers }
