package machine

import (
	"slices"

	"escapement/api"
)

// turn: may a goroutine touch the world? If not, it waits till it is its turn.
func (w *world) turn(m *machine) bool {
	ok, _ := w.sema.Acquire(m.g)
	if !ok {
		w.wait(m)
	}
	return ok
}

// pass: a goroutine may touch the world no more; the first one that waits may.
func (w *world) pass(g int) {
	if next, fault := w.sema.Release(g); fault == api.OK && next != nobody {
		w.ready(next, none)
	}
}

func (w *world) stop(m *machine, _ api.Instr) (api.Event, bool) {
	if w.holder == m.g {
		return w.commit(m, 0)
	}
	if !w.turn(m) {
		return api.Event{}, false
	}
	w.stopping = m.g
	w.stopOthers(m)
	return w.begin(m)
}

// stopOthers stops the processors that run nothing, and asks for the others: do all but the machine's own stand still?
func (w *world) stopOthers(m *machine) bool {
	all := true
	for p := range w.Len() {
		if p == m.p {
			continue
		}
		who := w.status.Who(p)
		switch w.status.Get(p) {
		case api.PSyscall:
			w.ms[who].p = none
			fallthrough
		case api.PIdle:
			w.idlePs.Drop(p)
			w.status.Stop(p)
		case api.PRunning:
			w.preempt(w.ms[who])
			all = false
		}
	}
	return all
}

func (w *world) finishStop(m *machine) (api.Event, bool) {
	if !w.stopOthers(m) {
		return api.Event{}, false
	}
	w.status.Stop(m.p)
	w.stopping, w.holder = nobody, m.g
	return w.commit(m, 0)
}

func (w *world) start(m *machine, _ api.Instr) (api.Event, bool) {
	e, seen := w.commit(m, 0)
	if w.holder == m.g {
		w.restart(m)
	}
	return e, seen
}

// restart: the holder, whom a machine runs, holds the world no more.
func (w *world) restart(m *machine) {
	holder := w.holder
	w.holder = nobody
	plan := w.plan(m.p)
	w.status.Go(m.p)
	for _, p := range plan.Go {
		w.status.Go(p)
		w.handOne(p)
	}
	for _, p := range plan.Idle {
		w.status.Go(p)
		w.queue.Put(w.Ring(p).Drain()...)
	}
	for k := len(plan.Idle) - 1; k >= 0; k-- { // so that the first ones are taken first
		w.idlePs.Put(plan.Idle[k])
	}
	w.pass(holder)
}

func (w *world) barrier(m *machine, _ api.Instr) (api.Event, bool) {
	if w.holder == m.g {
		return w.commit(m, 0)
	}
	if !w.turn(m) {
		return api.Event{}, false
	}
	for p := range w.owed {
		w.owed[p] = true
		if w.status.Get(p) == api.PRunning && p != m.p {
			w.preempt(w.ms[w.status.Who(p)])
		}
	}
	return w.begin(m)
}

// finishBarrier serves for the own processor, and for those that run nothing, in a step of its own; it commits when all have served.
func (w *world) finishBarrier(m *machine) (api.Event, bool) {
	if !slices.Contains(w.owed, true) {
		w.pass(m.g)
		return w.commit(m, 0)
	}
	for p, owed := range w.owed {
		switch {
		case !owed:
		case p != m.p && w.status.Get(p) == api.PRunning:
			w.preempt(w.ms[w.status.Who(p)])
		default:
			w.serve(p)
		}
	}
	return api.Event{}, false
}

func (w *world) resize(m *machine, i api.Instr) (api.Event, bool) {
	n := w.register(m, i)
	if w.holder != m.g || n < 1 || n > api.MaxProcs {
		return w.commit(m, 0)
	}
	w.change(m, int(n))
	return w.commit(m, 1)
}

// change: there are n processors, all stopped; the holder's machine has the first one, if its own goes.
func (w *world) change(m *machine, n int) {
	w.status.Resize(n)
	w.Resize(n, w.queue)
	counts := make([]int, n)
	copy(counts, w.counts)
	w.counts, w.owed = counts, make([]bool, n)
	if m.p < n {
		return
	}
	m.p = 0
	w.status.Go(0)
	w.status.Take(0, m.id)
	w.status.Stop(0)
}
