package machine

import (
	"slices"

	"escapement/api"
	"escapement/decide"
	"escapement/gstat"
	"escapement/spread"
	"escapement/susp"
)

func (w *world) suspend(m *machine, i api.Instr) (api.Event, bool) {
	r := w.register(m, i)
	t := w.get(r)
	if t == nil || int(r) == m.g {
		return w.commit(m, -1)
	}
	if w.holder != m.g {
		w.ask(int(r))
		return w.begin(m)
	}
	action := susp.Next(t.word, false, true)
	if action == susp.Lock {
		w.lock(int(r))
	}
	answer, _ := susp.Answer(action)
	return w.commit(m, answer)
}

// ask: who runs is asked to stand still.
func (w *world) ask(t int) {
	for _, m := range w.ms {
		if m.g == t {
			w.preempt(m)
		}
	}
}

func (w *world) finishSuspend(m *machine) (api.Event, bool) {
	t := int(w.asks(w.gs[m.g-1]))
	action := susp.Next(w.gs[t-1].word, t == m.g, false)
	switch action {
	case susp.Ask:
		return w.linger(m, t)
	case susp.Wait:
		w.wait(m)
		return api.Event{}, false
	case susp.Lock:
		w.lock(t)
	}
	answer, _ := susp.Answer(action)
	return w.commit(m, answer)
}

// linger: while somebody waits for another one to stand still, he does what he is asked for himself.
func (w *world) linger(m *machine, t int) (api.Event, bool) {
	w.act(m, decide.Behind(w.flags(m)))
	if m.phase == running {
		w.ask(t)
	}
	return api.Event{}, false
}

// lock: t, who stands still, is suspended; if it was to touch the world, it comes to that again when it is resumed.
func (w *world) lock(t int) {
	x := w.gs[t-1]
	if x.word == api.GRunnable {
		w.pull(t)
		w.move(t, api.GPreempted)
	}
	x.word, _ = gstat.Lock(x.word)
	w.log.Suspend(t)
	w.sema.Drop(t)
	w.pass(t)
}

// takeOff: who is suspended comes back from a call.
func (w *world) takeOff(t int) {
	x := w.gs[t-1]
	x.word, _ = gstat.Unlock(x.word)
	w.move(t, api.GRunnable)
	w.move(t, api.GPreempted)
	x.word, _ = gstat.Lock(x.word)
}

// pull takes t out of the queue in which it waits; the others stay in their order.
func (w *world) pull(t int) {
	if w.queue.Remove(t) {
		return
	}
	for p := range w.Len() {
		ring := w.Ring(p)
		next, l := ring.Next(), ring.List()
		at := slices.Index(l, t)
		if at < 0 {
			continue
		}
		ring.Drain()
		l = slices.Delete(l, at, at+1)
		if next != 0 && next != t {
			ring.Put(next, true)
			l = l[1:]
		}
		ring.Fill(l)
		return
	}
}

func (w *world) resume(m *machine, i api.Instr) (api.Event, bool) {
	r := w.register(m, i)
	t := w.get(r)
	if t == nil || !w.log.Resume(int(r)) {
		return w.commit(m, 0)
	}
	action := susp.Resume(t.word, !t.blocked)
	t.word, _ = gstat.Unlock(t.word)
	if action == susp.Ready {
		w.ready(int(r), m.p)
	}
	for id, x := range w.gs {
		if x.word == api.GWaiting && x.begun && w.asks(x) == r {
			w.ready(id+1, m.p)
		}
	}
	return w.commit(m, 1)
}

// plan: which processors go on when the world does, and which are idle.
func (w *world) plan(self int) spread.Plan {
	waits := make([]int, w.Len())
	for p := range waits {
		waits[p] = w.Ring(p).Len()
	}
	return spread.World(waits, self, w.spare())
}
