package machine

import (
	"escapement/api"
	"escapement/decide"
	"escapement/glob"
	"escapement/gstat"
	"escapement/idle"
	"escapement/num"
	"escapement/procs"
	"escapement/pstat"
	"escapement/sema"
	"escapement/sig"
	"escapement/spread"
	"escapement/susp"
)

const nobody = 0

// none is the processor of a machine that has none.
const none = -1

// What a machine is at.
const (
	resting = iota
	looking
	stealing
	running
	calling
)

// goroutine: called tells that its sys is over, and waits for its commit alone.
type goroutine struct {
	thread                        api.Thread
	word                          int
	blocked, token, begun, called bool
}

// machine: of the operating system. Of its flags Armed, Preempt and Spent are kept; the others are worked out.
type machine struct {
	id, phase, p, g int
	flags           decide.Flags
	used            int // how many instructions of the slice
	looks           int // how often it looked for work
	left            int // for how many steps its call lasts yet
}

// world: goroutines and machines, by their ids; processors; and what of the entry holds in this step.
type world struct {
	*procs.Procs
	program api.Program
	conf    api.Conf
	gs      []*goroutine
	ms      []*machine
	status  *pstat.Table
	idlePs  *idle.List
	idleMs  *idle.List
	queue   *glob.Queue
	box     *sig.Box
	sema    *sema.Sema
	log     *susp.Log
	counts  []int
	owed    []bool // which processors are to serve the barrier yet

	stopping, holder int
	steps            int
	delay            int
	draw             int
}

// doing: what a machine does next, by its phase.
func doing(phase int) func(*world, *machine) (api.Event, bool) {
	switch phase {
	case looking:
		return (*world).look
	case stealing:
		return (*world).steal
	case running:
		return (*world).run
	case calling:
		return (*world).call
	}
	return (*world).rest
}

func (w *world) step(e api.Entry) (api.Event, bool) {
	m := w.ms[num.Mod(e.Pick, len(w.ms))]
	w.delay, w.draw = num.Mod(e.Delay, api.MaxDelay+1), e.Draw
	if m.phase != resting && w.box.Due(m.id, int64(w.steps)) {
		m.flags.Armed = true
	}
	event, seen := doing(m.phase)(w, m)
	w.settle()
	w.steps++
	return event, seen
}

func (w *world) rest(*machine) (api.Event, bool) { return api.Event{}, false }

// settle brings back who was taken off for somebody that asks no more, and wakes a machine if somebody waits for one.
func (w *world) settle() {
	for id := range w.gs {
		if w.gs[id].word == api.GPreempted && !w.asked(id+1) {
			w.ready(id+1, none)
		}
	}
	if w.holder != nobody || w.stopping != nobody || w.spare() == 0 {
		return
	}
	if spread.Wake(w.idlePs.Len(), w.spinning(), w.Total()+w.queue.Len()) {
		w.hand()
	}
}

// spare: how many machines could be given a processor.
func (w *world) spare() int { return w.idleMs.Len() + w.conf.Ms - len(w.ms) }

// spinning: how many machines look for work.
func (w *world) spinning() int {
	n := 0
	for _, m := range w.ms {
		if m.phase == looking || m.phase == stealing {
			n++
		}
	}
	return n
}

// hand gives the idle processor that came last to a machine that is parked, or to one more.
func (w *world) hand() {
	if p, ok := w.idlePs.Get(); ok {
		w.handOne(p)
	}
}

func (w *world) handOne(p int) {
	id, ok := w.idleMs.Get()
	if !ok {
		id = len(w.ms)
		w.ms = append(w.ms, &machine{id: id})
	}
	m := w.ms[id]
	w.status.Take(p, id)
	m.p, m.phase, m.flags = p, looking, decide.Flags{}
}

// park: a machine has nothing any more.
func (w *world) park(m *machine) {
	*m = machine{id: m.id, phase: resting, p: none, looks: m.looks}
	w.idleMs.Put(m.id)
}

// fresh: one more goroutine.
func (w *world) fresh(t api.Thread) int {
	w.gs = append(w.gs, &goroutine{thread: t, word: api.GIdle})
	return len(w.gs)
}

func (w *world) move(g, to int) {
	x := w.gs[g-1]
	x.word, _ = gstat.Move(x.word, to)
}

// ready: g waits, as the next one at the processor p, or for all.
func (w *world) ready(g, p int) {
	if p != none {
		w.queueAt(p, g)
		return
	}
	w.move(g, api.GRunnable)
	w.queue.Put(g)
}

func (w *world) queueAt(p, g int) {
	w.move(g, api.GRunnable)
	w.queue.Put(w.Ring(p).Put(g, true)...)
}

// leave: a machine runs its goroutine no more, and looks for another one.
func (w *world) leave(m *machine) { m.g, m.phase = nobody, looking }

// asks: the id that a goroutine at a suspend names; 0: it is at none.
func (w *world) asks(x *goroutine) int64 {
	if x.thread.Done {
		return 0
	}
	i := w.program.Funcs[x.thread.Func].Code[x.thread.PC]
	if i.Op != api.OpSuspend || !x.begun {
		return 0
	}
	return x.thread.Regs[i.A]
}

// asked: is there somebody who waits for g to stand still, and can see to it?
func (w *world) asked(g int) bool {
	for _, x := range w.gs {
		if x.begun && (x.word == api.GRunning || x.word == api.GRunnable) && w.asks(x) == int64(g) {
			return true
		}
	}
	return false
}

// preempt asks a machine to stop its goroutine at the next place where that may be.
func (w *world) preempt(m *machine) {
	if m.phase == running && !m.flags.Preempt {
		m.flags.Preempt = true
		w.box.Send(m.id, int64(w.steps+w.delay))
	}
}
