package drive

import (
	"fanlight/api"
	"fanlight/nat"
	"fanlight/ring"
)

// worker is what one does, and what is its own: it touches nothing of others but by the cells of the translator and of its ring.
type worker struct {
	nat     *nat.Nat
	number  int
	ring    *ring.Ring      // the numbers of the frames that wait
	waiting map[int]arrival // these frames, by their numbers
	get     *ring.Step      // by which it gets the next number; nil: it doesn't yet
	job     job
	frame   int // the number of the frame that it does
	swept   int // the tick at which its last sweep began
	outs    []Out
	ended   int // how many bindings those of its sweeps ended that are done
}

// arrival is a frame that came.
type arrival struct {
	out   bool
	frame []byte
}

// job is what a worker has begun.
type job int

const (
	nothing job = iota
	aFrame
	aSweep
)

// newWorker is worker k, for whom so many frames may wait.
func newWorker(n *nat.Nat, k, most int) (*worker, api.Errno) {
	r, e := ring.New(most)
	if e != api.OK {
		return nil, e
	}
	return &worker{nat: n, number: k, ring: r, waiting: map[int]arrival{}}, api.OK
}

// await lets a frame wait for the worker, if there is room.
func (w *worker) await(number int, a arrival) api.Errno {
	s := w.ring.Put(uint64(number))
	for !w.ring.Do(s) {
	}
	if s.End() == api.OK {
		w.waiting[number] = a
	}
	return s.End()
}

// step does one step, at a tick: had the worker nothing to do?
func (w *worker) step(tick int) bool {
	switch {
	case w.job != nothing:
		w.goOn()
	case tick != w.swept:
		w.sweep(tick)
	default:
		return w.next(tick)
	}
	return false
}

// goOn does one step of what was begun.
func (w *worker) goOn() {
	if !w.nat.Do(w.number) {
		return
	}
	if w.job == aFrame {
		a, _ := w.nat.Told(w.number)
		w.outs = append(w.outs, Out{Number: w.frame, Answer: a})
	} else {
		w.ended += len(w.nat.Ended(w.number))
	}
	w.job = nothing
}

func (w *worker) sweep(tick int) {
	w.swept = tick
	w.job = aSweep
	w.nat.Sweep(w.number, tick)
}

// next does one step of getting a number; when it has one it begins that frame, which is no step of its own: it changes no cell, and reads none. Does nothing wait?
func (w *worker) next(tick int) bool {
	if w.get == nil {
		w.get = w.ring.Get()
	}
	if !w.ring.Do(w.get) {
		return false
	}
	got := w.get
	w.get = nil
	if got.End() != api.OK {
		return true
	}
	w.begin(int(got.Value()), tick)
	return false
}

func (w *worker) begin(number, tick int) {
	a := w.waiting[number]
	delete(w.waiting, number)
	w.frame = number
	w.job = aFrame
	w.nat.Begin(w.number, a.out, a.frame, tick)
}

// sent is how many of its frames went on.
func (w *worker) sent() int {
	n := 0
	for _, o := range w.outs {
		if o.Answer.Err == api.OK {
			n++
		}
	}
	return n
}
