package nat

import (
	"slices"

	"fanlight/api"
	"fanlight/model"
	"fanlight/place"
	"fanlight/plan"
	"fanlight/pool"
)

// Who claims a port.
const (
	Pooled  = 1
	Cached  = 2
	Bound   = 3
	Retired = 4
)

// Claim is who claims a port: in the pool, in a worker's cache, by a binding, given up by a worker (the worker: -1 of the pool, and of a binding).
type Claim struct{ Kind, Worker int }

// Bindings is those that are there, by their places.
func (n *Nat) Bindings() []model.Binding {
	if n == nil {
		return nil
	}
	var l []model.Binding
	for i := range n.places.Size() {
		if w := n.places.Load(i); w.State == place.Live {
			l = append(l, model.Binding{Flow: n.places.Key(i), Port: n.port(i), Track: w.Track, Seen: w.Seen})
		}
	}
	return l
}

// Claims is who claims a port of a protocol.
func (n *Nat) Claims(proto, port int) []Claim {
	i := plan.Place(n.Config(), proto, port)
	if i < 0 {
		return nil
	}
	kind, number := plan.Kind(proto), port-n.config.Lo
	var l []Claim
	if isFree(n.pools[kind], number) {
		l = append(l, Claim{Kind: Pooled, Worker: none})
	}
	for k, w := range n.workers {
		if c := w.caches[kind]; slices.Contains(c.All(), number) || slices.Contains(c.Leaving(), number) {
			l = append(l, Claim{Kind: Cached, Worker: k})
		}
	}
	if s := n.places.Load(i).State; s == place.Made || s == place.Live {
		l = append(l, Claim{Kind: Bound, Worker: none})
	}
	for k, w := range n.workers {
		if slices.ContainsFunc(w.retired, func(g gone) bool { return g.place == i }) {
			l = append(l, Claim{Kind: Retired, Worker: k})
		}
	}
	return l
}

// Copy is all cells, read one by one: those of the pools, the places, the table, the epochs.
func (n *Nat) Copy() []uint64 {
	if n == nil {
		return nil
	}
	var l []uint64
	for _, p := range n.pools {
		l = append(l, p.Copy()...)
	}
	return slices.Concat(l, n.places.Copy(), n.table.Copy(), n.epochs.Copy())
}

// isFree tells whether a number is free in a pool: its bit isn't set in its word. One word is less to read than all that is free.
func isFree(p *pool.Pool, number int) bool {
	return p.Copy()[number/api.Block]>>(number%api.Block)&1 == 0
}
