package machine

import (
	"escapement/api"
	"escapement/decide"
	"escapement/num"
	"escapement/vm"
)

// waiting: what a machine does for a goroutine whose call has begun.
func waiting(op int) func(*world, *machine) (api.Event, bool) {
	switch op {
	case api.OpStop:
		return (*world).finishStop
	case api.OpBarrier:
		return (*world).finishBarrier
	}
	return (*world).finishSuspend
}

// doingOp: what a machine does at an instruction.
func doingOp(op int) func(*world, *machine, api.Instr) (api.Event, bool) {
	switch op {
	case api.OpStop:
		return (*world).stop
	case api.OpStart:
		return (*world).start
	case api.OpBarrier:
		return (*world).barrier
	case api.OpSuspend:
		return (*world).suspend
	case api.OpResume:
		return (*world).resume
	case api.OpResize:
		return (*world).resize
	case api.OpSpawn:
		return (*world).spawn
	case api.OpReady:
		return (*world).makeReady
	case api.OpBlock:
		return (*world).block
	case api.OpYield:
		return (*world).yield
	case api.OpSys:
		return (*world).sys
	case api.OpSelf:
		return (*world).self
	}
	return (*world).plain
}

// run: a machine does what comes next of its goroutine.
func (w *world) run(m *machine) (api.Event, bool) {
	x := w.gs[m.g-1]
	f := w.program.Funcs[x.thread.Func]
	i := f.Code[x.thread.PC]
	if x.begun {
		return waiting(i.Op)(w, m)
	}
	if action := decide.Decide(f, x.thread.PC, w.flags(m)); action != decide.Go {
		w.act(m, action)
		return api.Event{}, false
	}
	event, seen := doingOp(i.Op)(w, m, i)
	if m.phase == running && m.used >= api.Slice {
		w.spend(m)
	}
	return event, seen
}

// spend: a slice is used up; that counts if somebody waits.
func (w *world) spend(m *machine) {
	waits := w.Ring(m.p).Len() + w.queue.Len()
	if waits > 0 && w.holder == nobody && !w.gs[m.g-1].begun {
		m.flags.Spent = true
		w.preempt(m)
	}
}

// flags: of a machine that runs a goroutine; the holder is asked for nothing.
func (w *world) flags(m *machine) decide.Flags {
	x := m.flags
	if w.holder == m.g {
		x.Spent = false
		return x
	}
	x.Barrier, x.Stopping, x.Suspend = w.owed[m.p], w.stopping != nobody, w.asked(m.g)
	return x
}

// act: what comes ahead of an instruction.
func (w *world) act(m *machine, action int) {
	m.flags = decide.Clear(m.flags, action)
	g := m.g
	switch action {
	case decide.Serve:
		w.serve(m.p)
	case decide.Park:
		w.move(g, api.GPreempted)
		w.leave(m)
	case decide.Requeue:
		w.leave(m)
		m.used = 0
		if w.stopping == nobody {
			w.ready(g, none)
			return
		}
		w.move(g, api.GRunnable)
		w.queue.Put(w.Ring(m.p).Put(g, false)...)
		w.giveUp(m)
	}
}

// event: of a machine's goroutine, where it is.
func (w *world) event(m *machine, kind int) api.Event {
	t := w.gs[m.g-1].thread
	return api.Event{Kind: kind, G: m.g, Func: t.Func, PC: t.PC}
}

func (w *world) begin(m *machine) (api.Event, bool) {
	w.gs[m.g-1].begun = true
	m.flags.Spent = false
	return w.event(m, api.EvBegin), true
}

// commit: a goroutine does its instruction.
func (w *world) commit(m *machine, answer int64) (api.Event, bool) {
	x := w.gs[m.g-1]
	e := w.event(m, api.EvCommit)
	next, number, _ := vm.Step(w.program, x.thread, answer)
	e.N = number
	x.thread, x.begun, x.called = next, false, false
	m.used++
	if next.Done {
		w.finish(m)
	}
	return e, true
}

// finish: a goroutine is dead; a holder leaves the world to the others.
func (w *world) finish(m *machine) {
	w.move(m.g, api.GDead)
	if w.holder == m.g {
		w.restart(m)
	}
	w.leave(m)
}

// register: what an instruction's register is.
func (w *world) register(m *machine, i api.Instr) int64 { return w.gs[m.g-1].thread.Regs[i.A] }

// get: a goroutine that is there; else nil.
func (w *world) get(g int64) *goroutine {
	if g < 1 || g > int64(len(w.gs)) {
		return nil
	}
	return w.gs[g-1]
}

func (w *world) plain(m *machine, _ api.Instr) (api.Event, bool) { return w.commit(m, 0) }

func (w *world) self(m *machine, _ api.Instr) (api.Event, bool) { return w.commit(m, int64(m.g)) }

func (w *world) spawn(m *machine, i api.Instr) (api.Event, bool) {
	if len(w.gs) >= w.conf.Gs {
		return w.commit(m, -1)
	}
	g := w.fresh(vm.New(int(i.N), w.register(m, i)))
	w.ready(g, m.p)
	return w.commit(m, int64(g))
}

func (w *world) makeReady(m *machine, i api.Instr) (api.Event, bool) {
	r := w.register(m, i)
	t := w.get(r)
	switch {
	case t == nil || t.thread.Done:
		return w.commit(m, 0)
	case !t.blocked:
		t.token = true
		return w.commit(m, 1)
	}
	t.blocked = false
	if t.word == api.GWaiting { // who is suspended goes on when he is resumed
		w.ready(int(r), m.p)
	}
	return w.commit(m, 1)
}

func (w *world) block(m *machine, _ api.Instr) (api.Event, bool) {
	x := w.gs[m.g-1]
	if w.holder == m.g {
		return w.commit(m, 0)
	}
	e, seen := w.commit(m, 0)
	if x.token {
		x.token = false
		return e, seen
	}
	x.blocked = true
	w.wait(m)
	return e, seen
}

// wait: a goroutine waits for somebody.
func (w *world) wait(m *machine) {
	w.move(m.g, api.GWaiting)
	w.leave(m)
}

func (w *world) yield(m *machine, _ api.Instr) (api.Event, bool) {
	e, seen := w.commit(m, 0)
	if g := m.g; w.holder != g {
		w.leave(m)
		w.ready(g, none)
	}
	return e, seen
}

func (w *world) sys(m *machine, i api.Instr) (api.Event, bool) {
	if w.holder == m.g || w.gs[m.g-1].called {
		return w.commit(m, 0)
	}
	w.move(m.g, api.GSyscall)
	w.status.Enter(m.p)
	m.phase, m.left = calling, num.Mod(int(w.register(m, i)), 4)
	return api.Event{}, false
}
