package history_test

import (
	"bytes"
	"math/rand"
	"slices"
	"testing"

	"fanlight/api"
	"fanlight/history"
	"fanlight/model"
)

// notes is what a history is to be, kept plainly: each call tells what it noted.
type notes struct {
	now  int
	list []history.Entry
}

func (n *notes) end(i int, a model.Answer, source int) api.Errno {
	if i < 0 || i >= len(n.list) || n.list[i].End != -1 {
		return api.ErrArg
	}
	n.now++
	x := &n.list[i]
	x.End, x.Answer = n.now, a
	switch a.Err {
	case api.ErrNoPort:
		x.Call.Port = -1
	case api.ErrFull:
		x.Call.Port = -2
	case api.OK:
		if x.Call.Out {
			x.Call.Port = source
		}
	}
	return api.OK
}

// someAnswer is an answer, and the port from which its frame comes.
func someAnswer(rnd *rand.Rand) (model.Answer, int) {
	from := uint16(rnd.Intn(1 << 16))
	source := int(from)
	var a model.Answer
	switch rnd.Intn(5) {
	case 0:
		a.Frame = tcp(from)
	case 1:
		a.Frame = echo(rnd.Intn(2) == 0, from)
	case 2:
		a.Frame, source = spoilt(udp(from), rnd.Intn(28)), 0
	default:
		a.Frame = udp(from)
	}
	if rnd.Intn(2) == 0 {
		a.Err = []api.Errno{api.ErrNoPort, api.ErrFull, api.ErrNone, api.ErrArg, api.ErrSum}[rnd.Intn(5)]
	}
	return a, source
}

// TestRandomCalls holds calls of all kinds, one behind the other, against plain notes.
func TestRandomCalls(t *testing.T) {
	for seed := range 300 {
		rnd := rand.New(rand.NewSource(int64(seed)))
		h, n := history.New(), &notes{}
		for range 60 {
			switch rnd.Intn(4) {
			case 0:
				x := model.Call{Out: rnd.Intn(2) == 0, Frame: udp(uint16(rnd.Intn(9))), Tick: rnd.Intn(9), Port: rnd.Intn(9)}
				begin(t, h, x, len(n.list))
				n.now++
				n.list = append(n.list, history.Entry{Begin: n.now, End: -1, Call: x})
			case 1:
				since, x := rnd.Intn(n.now+3)-1, [3]int{rnd.Intn(99), rnd.Intn(20), rnd.Intn(9999)}
				if since < 1 || since > n.now {
					ended(t, h, since, x[0], x[1], x[2], -1)
					break
				}
				ended(t, h, since, x[0], x[1], x[2], len(n.list))
				n.now++
				n.list = append(n.list, history.Entry{Begin: since, End: n.now, Ends: true, Call: model.Call{Tick: x[0]}, Proto: x[1], Port: x[2]})
			default:
				i := rnd.Intn(len(n.list)+3) - 1
				a, source := someAnswer(rnd)
				end(t, h, i, a, n.end(i, a, source))
			}
		}
		wantAll(t, h, n.now, n.list...)
		if !history.Right(h.All()) {
			t.Fatalf("what was noted isn't right: %+v", h.All())
		}
	}
}

// spare is b with room behind it that isn't its own.
func spare(b []byte) (all, own []byte) {
	all = append(bytes.Clone(b), bytes.Repeat([]byte{0xCD}, 40)...)
	return all, all[:len(b):len(all)]
}

func overwrite(b []byte) {
	for i := range b[:cap(b)] {
		b[:cap(b)][i] = 0x11
	}
}

func TestNothingIsKept(t *testing.T) {
	h := history.New()
	all, call := spare(udp(5))
	other, answer := spare(udp(1003))
	wasCall, wasAnswer := bytes.Clone(all), bytes.Clone(other)
	begin(t, h, model.Call{Out: true, Frame: call, Port: 1}, 0)
	end(t, h, 0, model.Answer{Frame: answer}, api.OK)
	begin(t, h, model.Call{Frame: call}, 1)
	if !bytes.Equal(all, wasCall) || !bytes.Equal(other, wasAnswer) {
		t.Error("what was handed in was changed")
	}
	clear(all)
	clear(other)
	want := []history.Entry{
		{Begin: 1, End: 2, Call: model.Call{Out: true, Frame: udp(5), Port: 1003}, Answer: model.Answer{Frame: udp(1003)}},
		{Begin: 3, End: -1, Call: model.Call{Frame: udp(5)}},
	}
	wantAll(t, h, 3, want...)
	first, second := h.All(), h.All()
	overwrite(first[0].Call.Frame)
	if !sameEntry(first[1], want[1]) || !bytes.Equal(first[0].Answer.Frame, udp(1003)) {
		t.Error("frames of one answer share memory")
	}
	overwrite(first[0].Answer.Frame)
	first[1] = history.Entry{}
	_ = append(first[:1], history.Entry{Begin: 99})
	if !slices.EqualFunc(second, want, sameEntry) {
		t.Error("two answers share memory")
	}
	wantAll(t, h, 3, want...)
}

// TestListsArentChanged has entries behind the list, which aren't its own.
func TestListsArentChanged(t *testing.T) {
	l := []history.Entry{frame(9, 12), frame(3, -1), frame(1, 5), frame(2, 2)}
	was := slices.Clone(l)
	history.Right(l[:3])
	if history.Width(l[:3]) != 2 || !slices.EqualFunc(l, was, sameEntry) {
		t.Error(l)
	}
}

// TestAnswersAreAsTheyWere: what is noted later changes no list that was told.
func TestAnswersAreAsTheyWere(t *testing.T) {
	h := history.New()
	begin(t, h, model.Call{Port: 4}, 0)
	l := h.All()
	end(t, h, 0, model.Answer{Err: api.ErrNoPort}, api.OK)
	if len(l) != 1 || !sameEntry(l[0], history.Entry{Begin: 1, End: -1, Call: model.Call{Port: 4}}) {
		t.Error(l)
	}
}
