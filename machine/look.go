package machine

import (
	"escapement/api"
	"escapement/deal"
	"escapement/decide"
	"escapement/gstat"
)

// often: each so many looks a machine asks first who waits for all.
const often = 8

// standsStill: while the world is being stopped, a machine without a goroutine gives its processor up.
func (w *world) standsStill(m *machine) bool {
	if w.stopping == nobody {
		return false
	}
	w.giveUp(m)
	return true
}

func (w *world) giveUp(m *machine) {
	w.status.Release(m.p)
	w.status.Stop(m.p)
	w.park(m)
}

// serve: the barrier comes by a processor.
func (w *world) serve(p int) bool {
	if !w.owed[p] {
		return false
	}
	w.owed[p] = false
	w.counts[p]++
	return true
}

// next: who goes first: at the machine's processor, or of those that wait for all.
func (w *world) next(m *machine) (int, bool) {
	m.looks++
	ring := w.Ring(m.p)
	if m.looks%often == 0 {
		if g, ok := w.queue.Get(); ok {
			m.used = 0
			return g, true
		}
	}
	if ring.Next() == 0 { // who was made ready by the last one has what is left of its slice
		m.used = 0
	}
	if g, ok := ring.Get(); ok {
		return g, true
	}
	return w.first(m, w.queue.Batch(w.Len(), api.RingSize/2))
}

// first: of a list, whose others wait at the machine's processor then.
func (w *world) first(m *machine, l []int) (int, bool) {
	if len(l) == 0 {
		return nobody, false
	}
	m.used = 0
	w.queue.Front(w.Ring(m.p).Fill(l[1:]))
	return l[0], true
}

// execute: a machine runs g, unless somebody waits for it to stand still.
func (w *world) execute(m *machine, g int) {
	if w.asked(g) {
		w.move(g, api.GPreempted)
		m.phase = looking
		return
	}
	w.move(g, api.GRunning)
	m.g, m.phase, m.flags = g, running, decide.Flags{}
}

func (w *world) look(m *machine) (api.Event, bool) {
	if w.standsStill(m) || w.serve(m.p) {
		return api.Event{}, false
	}
	if g, ok := w.next(m); ok {
		w.execute(m, g)
	} else {
		m.phase = stealing
	}
	return api.Event{}, false
}

// grab: who is taken from another processor, as the draw tells.
func (w *world) grab(m *machine) (int, bool) {
	for _, p := range deal.Others(w.Len(), m.p, w.draw) {
		if g, ok := w.first(m, w.Ring(p).Grab()); ok {
			return g, true
		}
	}
	return nobody, false
}

func (w *world) steal(m *machine) (api.Event, bool) {
	if w.standsStill(m) || w.serve(m.p) {
		return api.Event{}, false
	}
	g, ok := w.grab(m)
	if !ok {
		g, ok = w.next(m)
	}
	if ok {
		w.execute(m, g)
		return api.Event{}, false
	}
	w.status.Release(m.p)
	w.idlePs.Put(m.p)
	w.park(m)
	return api.Event{}, false
}

// call: a machine is in sys; when that is over it needs a processor to go on.
func (w *world) call(m *machine) (api.Event, bool) {
	x := w.gs[m.g-1]
	switch {
	case m.p != none && w.serve(m.p):
		return api.Event{}, false
	case m.left > 0:
		m.left--
		return api.Event{}, false
	case m.p == none:
		if p, ok := w.idlePs.Get(); ok {
			w.status.Take(p, m.id)
			m.p = p
		}
	default:
		w.status.Leave(m.p, m.id)
	}
	if m.p != none && w.stopping == nobody && !gstat.Scanned(x.word) {
		w.move(m.g, api.GRunning)
		m.phase = running
		return w.commit(m, 0)
	}
	x.called = true
	w.back(m)
	return api.Event{}, false
}

// back: a goroutine comes from a call, but can't go on.
func (w *world) back(m *machine) {
	g := m.g
	w.leave(m)
	if gstat.Scanned(w.gs[g-1].word) {
		w.takeOff(g)
	} else {
		w.ready(g, none)
	}
	if m.p == none {
		w.park(m)
	} else {
		w.standsStill(m)
	}
}
