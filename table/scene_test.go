package table

import (
	"encoding/binary"
	"slices"
	"testing"

	"fanlight/api"
	"fanlight/place"
)

// What an actor does: it looks who has a flow; or it makes a place and puts it; or it lets the place that has a flow be Gone, and drops it; or it sees the one that has it once more.
const (
	finds = iota
	puts
	drops
	touches
)

type deed struct {
	kind  int
	flow  api.Flow
	place int // of puts
}

// actor does its deeds one behind the other. Phase counts what its first one did by now, beside a Step's own steps.
type actor struct {
	deeds []deed
	phase int
	place int
	step  *Step
	seen  watch
}

// watch is what was at the moments since a Step began.
type watch struct {
	had        []holding
	nobody     bool // at one of them nobody had the flow
	nobodyFull bool // and the first bucket was full then
	dos        int
	changes    int // of cells, by others
}

// holding is a place that had the flow, and its Word then.
type holding struct {
	place int
	word  place.Word
}

// scene is actors on a table, who keep to its rules of use. Whatever is promised is held against each moment: behind each step of one of them.
type scene struct {
	t      *testing.T
	places *place.Places
	table  *Table
	actors []actor
	in     []int   // of each bucket: how many stood in it at the last moment
	has    []bool  // of each place: it had its Key's flow then
	left   []bool  // its Drop was done, and it wasn't made since
	owned  []bool  // somebody makes it, or has made it
	waits  [][]int // actors whose Find or Put began ahead of its Drop's end
	ends   map[string]int
	moved  *int
	path   []int
}

func newScene(t *testing.T, buckets, places int) *scene {
	t.Helper()
	p, _ := place.New(places)
	x, e := New(p, buckets)
	if e != api.OK {
		t.Fatal(e)
	}
	return &scene{
		t: t, places: p, table: x,
		in: make([]int, buckets), has: make([]bool, places), left: make([]bool, places), owned: make([]bool, places), waits: make([][]int, places),
		ends: map[string]int{}, moved: new(int),
	}
}

// kin is the k-th flow whose buckets are these.
func kin(buckets, first, second, k int) api.Flow {
	for port := range 1 << 16 {
		f := api.Flow{Proto: api.Udp, Addr: 10 << 24, Port: uint16(port)}
		if a, b := Spots(f, buckets); a == first && b == second {
			if k == 0 {
				return f
			}
			k--
		}
	}
	panic("no such flow")
}

func (s *scene) act(deeds ...deed) *scene {
	s.actors = append(s.actors, actor{deeds: deeds})
	return s
}

// alone lets one do its deeds, while nobody else does any.
func (s *scene) alone(deeds ...deed) *scene {
	s.t.Helper()
	s.act(deeds...)
	for s.able(0) {
		s.turn(0)
	}
	s.actors = nil
	s.path = nil
	return s
}

func (s *scene) fail(what string, more ...any) {
	s.t.Helper()
	s.t.Fatalf("%s %v\nbuckets %v, places %v\nby turns %v", what, more, s.table.All(), s.words(), s.path)
}

func (s *scene) words() []place.Word {
	var l []place.Word
	for i := range s.places.Size() {
		l = append(l, s.places.Load(i))
	}
	return l
}

// able tells whether an actor may go on: what it makes may have to wait for others.
func (s *scene) able(a int) bool {
	x := &s.actors[a]
	if len(x.deeds) == 0 {
		return false
	}
	d := x.deeds[0]
	return d.kind != puts || x.phase != 1 || len(s.waits[x.place]) == 0
}

func (s *scene) turn(a int) {
	s.path = append(s.path, a)
	x := &s.actors[a]
	cells, places := s.table.Copy(), s.places.Copy()
	over := false
	switch x.deeds[0].kind {
	case finds:
		over = s.find(a)
	case puts:
		over = s.put(a)
	case drops:
		over = s.drop(a)
	case touches:
		s.touch(x.deeds[0].flow)
		over = true
	}
	if over {
		x.deeds, x.phase, x.step = x.deeds[1:], 0, nil
	}
	n := differ(cells, s.table.Copy()) + differ(places, s.places.Copy())
	for b := range s.actors {
		if b != a && s.actors[b].step != nil {
			s.actors[b].seen.changes += n
		}
	}
	s.look()
}

func differ(a, b []uint64) int {
	n := 0
	for i := range a {
		if a[i] != b[i] {
			n++
		}
	}
	return n
}

func (s *scene) begin(x *actor, step *Step) {
	x.step = step
	x.seen = watch{}
	x.phase++
	s.note(x)
}

// do does one step, in which at most one cell of the table is changed, and none of the places.
func (s *scene) do(a int) bool {
	x := &s.actors[a]
	cells, places := s.table.Copy(), s.places.Copy()
	if x.step.End() != api.ErrState {
		s.fail("it came to something ahead of its end:", x.step.End())
	}
	was := x.step.next
	done := s.table.Do(x.step)
	x.seen.dos++
	if n := differ(cells, s.table.Copy()); n > 1 || differ(places, s.places.Copy()) > 0 {
		s.fail("it changed too much:", n)
	}
	if x.seen.dos > 400+400*x.seen.changes {
		s.fail("it has no end:", x.seen.dos, x.seen.changes)
	}
	if was == moveLay && x.step.next != lookFirst {
		*s.moved++
	}
	// What this step did is at a moment of its own, ahead of what it came to.
	s.look()
	return done
}

func (s *scene) find(a int) bool {
	x := &s.actors[a]
	f := x.deeds[0].flow
	switch x.phase {
	case 0:
		s.begin(x, s.table.Find(f))
	case 1:
		if !s.do(a) {
			return false
		}
		s.release(a)
		s.judgeFind(x)
		i, w := x.step.Found()
		if x.step.End() != api.OK || w.State != place.Made {
			return true
		}
		x.place, x.step = i, nil
		x.phase++
	default:
		// Who finds one that is Made makes it Live.
		s.live(x.place)
		return true
	}
	return false
}

func (s *scene) put(a int) bool {
	x := &s.actors[a]
	d := x.deeds[0]
	switch x.phase {
	case 0:
		if s.owned[d.place] {
			return true
		}
		s.owned[d.place], x.place = true, d.place
		s.places.SetKey(d.place, d.flow)
		x.phase++
	case 1:
		w := s.places.Load(x.place)
		if !s.places.Cas(x.place, w, place.Word{State: place.Made, Gen: w.Gen + 1}) {
			s.fail("it can't be made:", x.place)
		}
		s.left[x.place] = false
		s.begin(x, s.table.Put(d.flow, x.place))
	case 2:
		if !s.do(a) {
			return false
		}
		s.release(a)
		s.judgePut(x)
		x.phase++
		if x.step.End() != api.OK {
			x.phase++
		}
		x.step = nil
	case 3:
		s.live(x.place)
		return true
	default:
		w := s.places.Load(x.place)
		s.become(x.place, w, place.Free)
		s.owned[x.place] = false
		return true
	}
	return false
}

func (s *scene) drop(a int) bool {
	x := &s.actors[a]
	d := x.deeds[0]
	switch x.phase {
	case 0:
		i := s.holder(d.flow)
		if i < 0 || s.places.Load(i).State != place.Live {
			return true
		}
		x.place = i
		s.become(i, s.places.Load(i), place.Gone)
		x.phase++
	case 1:
		s.begin(x, s.table.Drop(d.flow, x.place))
	case 2:
		if !s.do(a) {
			return false
		}
		if i, w := x.step.Found(); x.step.End() != api.OK || i != -1 || w != (place.Word{}) {
			s.fail("a Drop came to", x.step.End(), i, w)
		}
		s.ends["drop"]++
		s.left[x.place] = true
		for b := range s.actors {
			if k := s.actors[b].deeds; s.actors[b].step != nil && len(k) > 0 && k[0].kind != drops {
				s.waits[x.place] = append(s.waits[x.place], b)
			}
		}
		x.step = nil
		x.phase++
	default:
		s.become(x.place, s.places.Load(x.place), place.Free)
		s.owned[x.place] = false
		return true
	}
	return false
}

// touch sees a Live place that has f once more.
func (s *scene) touch(f api.Flow) {
	i := s.holder(f)
	if i < 0 || s.places.Load(i).State != place.Live {
		return
	}
	w := s.places.Load(i)
	now := w
	now.Seen++
	s.places.Cas(i, w, now)
}

func (s *scene) live(i int) {
	if w := s.places.Load(i); w.State == place.Made {
		s.become(i, w, place.Live)
	}
}

func (s *scene) become(i int, w place.Word, state int) {
	now := w
	now.State = state
	if !s.places.Cas(i, w, now) {
		s.fail("it can't become so:", i, state)
	}
}

// release notes that an actor's Find or Put is done: what waited for it waits no more.
func (s *scene) release(a int) {
	for i := range s.waits {
		s.waits[i] = slices.DeleteFunc(s.waits[i], func(b int) bool { return a == b })
	}
}

// holder is the place that had f at the last moment; -1: none had.
func (s *scene) holder(f api.Flow) int {
	for i, has := range s.has {
		if has && s.places.Key(i) == f {
			return i
		}
	}
	return -1
}

// look holds this moment against P11.1 and P11.4. A place has a flow, if it stands in one of its buckets, is Made or Live, and the flow is its Key.
func (s *scene) look() {
	stands := make([]int, s.places.Size())
	for k, l := range s.table.All() {
		if len(l) > 4 || !slices.IsSorted(l) || len(slices.Compact(slices.Clone(l))) < len(l) {
			s.fail("a bucket can't be so:", l)
		}
		s.in[k] = len(l)
		for _, i := range l {
			stands[i]++
			if a, b := Spots(s.places.Key(i), s.table.buckets); a != k && b != k {
				s.fail("it stands in a bucket of another flow:", i, k)
			}
		}
	}
	has := map[api.Flow]int{}
	for i, n := range stands {
		s.lookAt(i, n)
		if s.has[i] {
			has[s.places.Key(i)]++
		}
	}
	for f, n := range has {
		if n > 1 {
			s.fail("several have a flow:", f, n)
		}
	}
	for a := range s.actors {
		if s.actors[a].step != nil {
			s.note(&s.actors[a])
		}
	}
}

func (s *scene) lookAt(i, stands int) {
	w := s.places.Load(i)
	is := w.State == place.Made || w.State == place.Live
	if s.has[i] && is && stands == 0 {
		s.fail("it had its flow, and has it no more:", i)
	}
	if stands > 0 && (s.left[i] || w.State == place.Free) {
		s.fail("it was dropped, and stands there yet:", i)
	}
	s.has[i] = is && stands > 0
}

// note is what this moment is to a Step that goes on.
func (s *scene) note(x *actor) {
	if x.deeds[0].kind == drops {
		return
	}
	f := x.deeds[0].flow
	if i := s.holder(f); i >= 0 {
		if h := (holding{i, s.places.Load(i)}); !slices.Contains(x.seen.had, h) {
			x.seen.had = append(x.seen.had, h)
		}
		return
	}
	x.seen.nobody = true
	first, _ := Spots(f, s.table.buckets)
	if s.in[first] == 4 {
		x.seen.nobodyFull = true
	}
}

// judgeFind holds what a Find came to against P11.2.
func (s *scene) judgeFind(x *actor) {
	i, w := x.step.Found()
	switch e := x.step.End(); {
	case e == api.OK && slices.Contains(x.seen.had, holding{i, w}):
		s.ends["found"]++
	case e == api.ErrNone && i == -1 && w == (place.Word{}) && x.seen.nobody:
		s.ends["none"]++
	default:
		s.fail("a Find came to", e, i, w, x.seen)
	}
}

// judgePut holds what a Put came to against P11.3.
func (s *scene) judgePut(x *actor) {
	d := x.deeds[0]
	i, w := x.step.Found()
	noPlace := i == -1 && w == place.Word{}
	switch e := x.step.End(); {
	case e == api.OK && noPlace && s.holder(d.flow) == x.place:
		s.ends["put"]++
	case e == api.ErrBusy && i != x.place && slices.Contains(x.seen.had, holding{i, w}):
		s.ends["busy"]++
	case e == api.ErrFull && noPlace && x.seen.nobodyFull:
		s.ends["full"]++
	default:
		s.fail("a Put came to", e, i, w, x.seen)
	}
}

// finish holds what is left when all is done against P11.4.
func (s *scene) finish() {
	count := make([]int, s.places.Size())
	for _, l := range s.table.All() {
		for _, i := range l {
			count[i]++
		}
	}
	for i, n := range count {
		w := s.places.Load(i)
		want := 0
		if w.State == place.Live {
			want = 1
		}
		if n != want || w.State == place.Gone || w.State == place.Made {
			s.fail("all is done, and it isn't as it should be:", i, w)
		}
	}
}

// list is who may do the next step.
func (s *scene) list() []int {
	var l []int
	for a := range s.actors {
		if s.able(a) {
			l = append(l, a)
		}
	}
	return l
}

// play lets all go on to their ends, by picks.
func (s *scene) play(pick func(able []int) int) {
	for l := s.list(); len(l) > 0; l = s.list() {
		s.turn(pick(l))
	}
	s.finish()
}

// clone is a scene that is as s is, and goes on by itself.
func (s *scene) clone() *scene {
	c := *s
	c.places = clonePlaces(s.places)
	c.table, _ = New(c.places, s.table.buckets)
	for i, v := range s.table.Copy() {
		c.table.cells.Store(i, v)
	}
	c.path = slices.Clone(s.path)
	c.in, c.has, c.left, c.owned = slices.Clone(s.in), slices.Clone(s.has), slices.Clone(s.left), slices.Clone(s.owned)
	c.waits = make([][]int, len(s.waits))
	for i, l := range s.waits {
		c.waits[i] = slices.Clone(l)
	}
	c.actors = slices.Clone(s.actors)
	for a := range c.actors {
		x := &c.actors[a]
		x.seen.had = slices.Clone(x.seen.had)
		if x.step != nil {
			step := *x.step
			step.table, step.queue, step.moves = c.table, slices.Clone(step.queue), slices.Clone(step.moves)
			x.step = &step
		}
	}
	return &c
}

func clonePlaces(p *place.Places) *place.Places {
	c, _ := place.New(p.Size())
	for i := range p.Size() {
		c.SetKey(i, p.Key(i))
		end := p.Load(i)
		now := place.Word{}
		for now.Gen < end.Gen {
			now = step(c, i, now, place.Word{State: place.Made, Gen: now.Gen + 1, Track: end.Track, Seen: end.Seen})
			for now.Gen == end.Gen && end.State != place.Free && now.State < end.State {
				up := now
				up.State++
				now = step(c, i, now, up)
			}
			if now.State == place.Made && now != end {
				free := now
				free.State = place.Free
				now = step(c, i, now, free)
			}
		}
		if now != end {
			panic("a place that can't be made again")
		}
	}
	return c
}

func step(p *place.Places, i int, old, now place.Word) place.Word {
	if !p.Cas(i, old, now) {
		panic("a place that can't be so")
	}
	return now
}

// key is all on which it hangs how the scene goes on.
func (s *scene) key() string {
	var b []byte
	num := func(l ...int) {
		for _, n := range l {
			b = binary.AppendVarint(b, int64(n))
		}
	}
	word := func(l ...uint64) {
		for _, n := range l {
			b = binary.AppendUvarint(b, n)
		}
	}
	bit := func(l ...bool) {
		for _, v := range l {
			if v {
				b = append(b, 1)
			} else {
				b = append(b, 0)
			}
		}
	}
	word(s.table.Copy()...)
	word(s.places.Copy()...)
	bit(s.has...)
	bit(s.left...)
	bit(s.owned...)
	for _, l := range s.waits {
		num(len(l))
		num(l...)
	}
	for a := range s.actors {
		x := &s.actors[a]
		num(len(x.deeds), x.phase, x.place)
		bit(x.step != nil)
		if x.step == nil {
			continue
		}
		bit(x.seen.nobody, x.seen.nobodyFull)
		num(len(x.seen.had))
		for _, h := range x.seen.had {
			num(h.place, h.word.State, h.word.Gen, h.word.Seen)
		}
		p := x.step
		num(int(p.next), p.now, p.to, p.moved, len(p.queue), len(p.moves))
		num(p.queue...)
		word(uint64(p.first), uint64(p.read))
		for _, m := range p.moves {
			num(m.place, m.from)
			bit(m.deep)
		}
	}
	return string(b)
}

// byAllTurns goes through all that may come of s, by whatever turns: how many scenes that is.
func (s *scene) byAllTurns() int {
	seen := map[string]struct{}{s.key(): {}}
	stack := []*scene{s}
	for len(stack) > 0 {
		if len(seen) > 200000 {
			s.fail("there is no end of what may come of it")
		}
		x := stack[len(stack)-1]
		stack = stack[:len(stack)-1]
		able := x.list()
		if len(able) == 0 {
			x.finish()
		}
		for _, a := range able {
			c := x.clone()
			c.turn(a)
			k := c.key()
			if _, ok := seen[k]; !ok {
				seen[k] = struct{}{}
				stack = append(stack, c)
			}
		}
	}
	return len(seen)
}
