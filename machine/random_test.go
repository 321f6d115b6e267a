package machine_test

import (
	"fmt"
	"slices"
	"strings"
	"testing"

	"escapement/api"
	"escapement/asm"
	"escapement/flow"
	"escapement/gstat"
	. "escapement/machine"
	"escapement/model"
	"escapement/valid"
	"escapement/vm"
)

type dice struct{ n uint64 }

func (d *dice) below(n int) int {
	d.n = d.n*6364136223846793005 + 1442695040888963407
	return int(d.n >> 33 % uint64(n))
}

// lines: instructions of a function, of words that are weighed by how often they stand.
func (d *dice) lines(words []string, size, funcs int) []string {
	l := []string{"func"}
	for range size - 1 {
		w := words[d.below(len(words))]
		switch w {
		case "const":
			w = fmt.Sprint("const r", d.below(4), " ", d.below(7))
		case "if":
			w = fmt.Sprint("if r", d.below(4), " ", d.below(size))
		case "jump":
			w = fmt.Sprint("jump ", d.below(size))
		case "call":
			w = fmt.Sprint("call ", d.below(funcs))
		case "spawn":
			w = fmt.Sprint("spawn r", d.below(4), " ", d.below(funcs))
		case "add", "sub", "less":
			w = fmt.Sprint(w, " r", d.below(4), " r", d.below(4), " r", d.below(4))
		case "emit", "sys", "ready", "suspend", "resume", "resize", "self":
			w = fmt.Sprint(w, " r", d.below(4))
		}
		if d.below(3) == 0 {
			w = "* " + w
		}
		l = append(l, w)
	}
	return append(l, []string{"ret", "exit", "jump 0"}[d.below(3)])
}

func (d *dice) program(t *testing.T, words []string) api.Program {
	funcs, size := 1+d.below(4), 4+d.below(14)
	var l []string
	for range funcs {
		l = append(l, d.lines(words, size, funcs)...)
	}
	l = slices.Insert(l, 1, "spawn r1 0", "const r2 2", "const r3 3")
	p, line, fault := asm.Parse(strings.Join(l, "\n") + "\n")
	if fault != api.OK {
		t.Fatal(line, l)
	}
	for i := range p.Funcs[0].Code {
		if x := &p.Funcs[0].Code[i]; i > 2 && (x.Op == api.OpJump || x.Op == api.OpIf) {
			x.N += 3
		}
	}
	p = valid.Mend(p)
	if _, _, fault := valid.Check(p); fault != api.OK {
		t.Fatal("may not run", fault)
	}
	return p
}

func weights(s string) []string { return strings.Fields(s) }

var mixes = []string{
	"nop const add less self spawn ready ready block yield emit sys suspend suspend resume resume stop start start barrier if jump call resize",
	"nop nop const self spawn suspend resume if jump suspend resume",
	"nop spawn stop start start if jump resize resize const barrier sys block ready",
	"spawn spawn barrier barrier nop if jump sys yield call",
	"spawn block ready ready self const yield sys nop if",
	"spawn nop nop nop nop jump if suspend resume stop start barrier",
}

// auditor watches a machine, step by step.
type auditor struct {
	t       *testing.T
	p       api.Program
	c       api.Conf
	m       *Machine
	model   *model.Model
	before  api.Snap
	barrier map[int][]int // counts at the Begin of a barrier, by goroutine
	k       int
	bound   int
	bounded bool
	begun   map[int]int // since when a stop or barrier is under way
	alone   map[int]int // since when a suspend is under way, with nothing beside
	still   int         // for how many steps there was no event though some goroutine could act
	limit   int         // within how many there must be one
	seen    []api.Event
}

func newAuditor(t *testing.T, p api.Program, c api.Conf, k int) *auditor {
	m, f := New(p, c)
	mm, g := model.New(p, c)
	if f != api.OK || g != api.OK {
		t.Fatal(f, g)
	}
	a := &auditor{t: t, p: p, c: c, m: m, model: mm, k: k, barrier: map[int][]int{}, begun: map[int]int{}, alone: map[int]int{}}
	a.bound, a.bounded = flow.Bound(p)
	a.before = m.Snap()
	return a
}

func (a *auditor) fail(what ...any) {
	a.t.Helper()
	text, _ := asm.Print(a.p)
	a.t.Fatal(append(what, "step", a.m.Steps(), "conf", a.c, "snap", fmt.Sprintf("%+v", a.m.Snap()), "\n", text)...)
}

func (a *auditor) can() bool {
	for g := range a.model.Count() {
		if a.model.Can(g + 1) {
			return true
		}
	}
	return false
}

func (a *auditor) op(e api.Event) api.Instr { return a.p.Funcs[e.Func].Code[e.PC] }

func (a *auditor) step(e api.Entry) {
	could := a.can()
	event, seen := a.m.Step(e)
	if !seen && event != (api.Event{}) {
		a.fail("an event that is not seen")
	}
	s := a.m.Snap()
	if seen {
		a.seen = append(a.seen, event)
		was := a.model.Begun(event.G)
		if f := a.model.Do(event); f != api.OK {
			a.fail("not allowed", event, "holder", a.model.Holder(), "owner", a.model.Owner())
		}
		a.calls(event, was, s)
	} else {
		a.counts(s)
	}
	a.places(s)
	a.stopped(s)
	a.bounds(seen, could)
	if a.m.Quiet() && a.can() {
		a.fail("quiet, though somebody can act")
	}
	a.before = s
}

// counts: they go up while somebody's barrier is under way alone.
func (a *auditor) counts(s api.Snap) {
	if len(a.barrier) == 0 && len(s.Counts) == len(a.before.Counts) && !slices.Equal(s.Counts, a.before.Counts) {
		a.fail("counts went up")
	}
}

func (a *auditor) calls(e api.Event, was bool, s api.Snap) {
	i := a.op(e)
	switch {
	case e.Kind == api.EvBegin:
		if i.Op == api.OpBarrier {
			a.counts(s)
			a.barrier[e.G] = a.before.Counts
		}
		for g := range a.alone { // something else begins
			delete(a.alone, g)
		}
		if i.Op == api.OpSuspend {
			if len(a.begun) == 0 && a.others(e.G) == 0 {
				a.alone[e.G] = a.m.Steps()
			}
		} else {
			a.begun[e.G] = a.m.Steps()
		}
	case i.Op == api.OpBarrier && was:
		from := a.barrier[e.G]
		for p := range from {
			if s.Counts[p] != from[p]+1 || a.before.Counts[p] != from[p]+1 {
				a.fail("a barrier did not come by just once", from, s.Counts)
			}
		}
		delete(a.barrier, e.G)
		delete(a.begun, e.G)
	case i.Op == api.OpResize && e.N == 1:
		a.resized(e, s)
	default:
		delete(a.begun, e.G)
		delete(a.alone, e.G)
		a.counts(s)
	}
	for g := range a.alone {
		th, _ := a.model.Thread(g)
		t := int(th.Regs[a.op(api.Event{Func: th.Func, PC: th.PC}).A])
		if a.model.Suspended(g) || a.model.Suspended(t) || a.model.Holder() != 0 {
			delete(a.alone, g)
		}
	}
}

// others: how many calls of others are under way.
func (a *auditor) others(g int) int {
	n := 0
	for x := range a.model.Count() {
		if x+1 != g && a.model.Begun(x+1) {
			n++
		}
	}
	return n
}

func (a *auditor) resized(e api.Event, s api.Snap) {
	b := a.before
	n := int(b.Threads[e.G-1].Regs[a.op(e).A])
	if len(s.PStatus) != n || len(s.MP) != len(b.MP) || !slices.Equal(s.MG, b.MG) {
		a.fail("resize", n)
	}
	for p := range n {
		if p < len(b.Counts) && s.Counts[p] != b.Counts[p] || s.PStatus[p] != api.PStopped || p < len(b.Queues) && !slices.Equal(s.Queues[p], b.Queues[p]) || p >= len(b.Queues) && len(s.Queues[p]) > 0 {
			a.fail("resize, processor", p)
		}
	}
	for g, th := range s.Threads {
		if g+1 != e.G && !vm.Same(th, b.Threads[g]) || s.Status[g] != b.Status[g] {
			a.fail("resize, goroutine", g+1)
		}
	}
}

func (a *auditor) places(s api.Snap) {
	for g, w := range s.Status {
		runs, queues := 0, 0
		for _, r := range s.MG {
			if r == g+1 {
				runs++
			}
		}
		for _, q := range append(s.Queues, s.Global) {
			for _, x := range q {
				if x == g+1 {
					queues++
				}
			}
		}
		want := [2]int{}
		switch gstat.Base(w) {
		case api.GRunning, api.GSyscall:
			want[0] = 1
		case api.GRunnable:
			want[1] = 1
		}
		if !gstat.Is(w) || w == api.GIdle || want != [2]int{runs, queues} || (w == api.GDead) != s.Threads[g].Done {
			a.fail("place of", g+1, w, runs, queues)
		}
		th, _ := a.model.Thread(g + 1)
		if !vm.Same(th, s.Threads[g]) {
			a.fail("thread of", g+1, "is", s.Threads[g], "not", th)
		}
		if gstat.Scanned(w) != a.model.Suspended(g+1) {
			a.fail("suspended?", g+1, w)
		}
		stops := th.Done || valid.Stops(a.p.Funcs[th.Func], th.PC)
		if (gstat.Scanned(w) || w == api.GRunnable || w == api.GWaiting || w == api.GPreempted) && !stops {
			a.fail("stands at a place at which it may not be stopped", g+1)
		}
	}
	a.left(s)
	if len(s.Status) != a.model.Count() || len(s.Status) > a.c.Gs || len(s.MP) > a.c.Ms || len(s.MP) != a.m.Live() {
		a.fail("too many")
	}
	for p, st := range s.PStatus {
		had := 0
		for m, mp := range s.MP {
			if mp == p {
				had++
				if s.PM[p] != m {
					a.fail("PM of", p)
				}
			}
		}
		switch {
		case (st == api.PRunning || st == api.PSyscall) && had != 1, st == api.PIdle && (had > 0 || len(s.Queues[p]) > 0), st == api.PStopped && had > 1, st == api.PDead, had == 0 && s.PM[p] != -1:
			a.fail("processor", p, st, had)
		}
	}
	for m, parked := range s.Parked {
		if parked && (s.MP[m] != -1 || s.MG[m] != 0) || s.MP[m] < -1 || s.MP[m] >= len(s.PStatus) {
			a.fail("machine", m)
		}
	}
}

// left: nobody waits for what does not come.
func (a *auditor) left(s api.Snap) {
	wanted := map[int]bool{}
	for g := range s.Status {
		th := s.Threads[g]
		if i := a.p.Funcs[th.Func].Code[th.PC]; !th.Done && a.model.Begun(g+1) && !a.model.Suspended(g+1) && i.Op == api.OpSuspend {
			wanted[int(th.Regs[i.A])] = true
			if s.Status[g] == api.GWaiting && a.model.Can(g+1) {
				a.fail("waits, though it could suspend", g+1)
			}
		}
	}
	for g, w := range s.Status {
		if w == api.GPreempted && !wanted[g+1] {
			a.fail("taken off for nobody", g+1)
		}
		if a.model.Blocked(g+1) != (gstat.Base(w) == api.GWaiting && !a.turns(s, g)) && !a.model.Suspended(g+1) {
			a.fail("blocked?", g+1, w)
		}
		if a.model.Blocked(g+1) && gstat.Base(w) != api.GWaiting {
			a.fail("blocked, and does not wait", g+1, w)
		}
	}
}

// turns: does a goroutine wait for its turn at the world, or for a resume, as it may?
func (a *auditor) turns(s api.Snap, g int) bool {
	th := s.Threads[g]
	switch a.p.Funcs[th.Func].Code[th.PC].Op {
	case api.OpSuspend:
		return a.model.Begun(g+1) && !a.model.Can(g+1)
	case api.OpStop, api.OpBarrier:
		return !a.model.Blocked(g+1) && (a.model.Owner() != 0 || a.granted(s))
	}
	return false
}

// granted: is there somebody whose turn has come, and who has not begun yet?
func (a *auditor) granted(s api.Snap) bool {
	for g, th := range s.Threads {
		if th.Done || a.model.Suspended(g+1) || s.Status[g] == api.GWaiting {
			continue
		}
		if op := a.p.Funcs[th.Func].Code[th.PC].Op; op == api.OpStop || op == api.OpBarrier {
			return true
		}
	}
	return false
}

func (a *auditor) stopped(s api.Snap) {
	if s.Holder != a.model.Holder() {
		a.fail("holder", s.Holder, a.model.Holder())
	}
	if s.Holder == 0 {
		return
	}
	for p, st := range s.PStatus {
		if st != api.PStopped {
			a.fail("not stopped", p)
		}
	}
	for m := range s.MP {
		if s.MP[m] >= 0 && s.MG[m] != s.Holder {
			a.fail("has a processor", m)
		}
	}
	for g, w := range s.Status {
		if w == api.GRunning && g+1 != s.Holder {
			a.fail("runs", g+1)
		}
	}
}

// bounds: of a script that is fair for k.
func (a *auditor) bounds(seen, could bool) {
	if !a.bounded || a.k == 0 {
		return
	}
	for g, since := range a.begun {
		if a.m.Steps()-since > a.k*(a.bound+16) {
			a.fail("a stop or barrier takes too long", g)
		}
	}
	for g, since := range a.alone {
		if a.m.Steps()-since > a.k*(a.bound+16) {
			a.fail("a suspend takes too long", g)
		}
	}
	if seen || !could {
		a.still = 0
		return
	}
	if a.still == 0 {
		a.limit = a.k * (2*a.bound + 8*a.c.Gs + len(a.before.PStatus) + 64)
	}
	if a.still++; a.still > a.limit {
		a.fail("nothing comes any more")
	}
}

// fairScript picks so that it is fair for k: each machine that there is within any k steps.
func (a *auditor) runFair(d *dice, steps int) {
	last := map[int]int{}
	for range steps {
		s := a.before
		pick, oldest := d.below(len(s.MP)), -1
		for m := range s.MP {
			if s.Parked[m] {
				last[m] = 0
				continue
			}
			if last[m]++; last[m] > a.k {
				a.fail("the script is not fair")
			}
			if last[m] > oldest && last[m] >= a.k-len(s.MP)-1 {
				pick, oldest = m, last[m]
			}
		}
		last[pick] = 0
		a.step(api.Entry{Pick: pick + len(s.MP)*d.below(3), Delay: d.below(min(a.k, 64) + 1), Draw: d.below(1000)})
	}
}

func (a *auditor) runWild(d *dice, steps int) {
	for range steps {
		a.step(api.Entry{Pick: d.below(200) - 100, Delay: d.below(300) - 100, Draw: d.below(1000) - 500})
	}
}

func TestRandom(t *testing.T) { // P2802 to P2809, P1 to P5
	d := &dice{17}
	programs := 600
	if testing.Short() {
		programs = 100
	}
	quiet, held, resized, bounded, events := 0, 0, 0, 0, 0
	for n := range programs {
		p := d.program(t, weights(mixes[n%len(mixes)]))
		c := api.Conf{Procs: 1 + d.below(5), Gs: 1 + d.below(8), Ms: 1 + d.below(6)}
		if n%50 == 0 {
			c = api.Conf{Procs: 256, Gs: 64, Ms: 64}
		}
		if n%3 == 0 {
			a := newAuditor(t, p, c, 0)
			a.runWild(d, 600)
			continue
		}
		a := newAuditor(t, p, c, c.Ms+1+d.below(40))
		a.runFair(d, 1200)
		if a.bounded {
			bounded++
		}
		if a.m.Quiet() {
			quiet++
		}
		if a.before.Holder != 0 {
			held++
		}
		for _, e := range a.seen {
			if a.op(e).Op == api.OpResize && e.N == 1 {
				resized++
			}
		}
		events += len(a.seen)
	}
	t.Log("quiet", quiet, "held", held, "resized", resized, "bounded", bounded, "events", events)
}

// crowd: a program whose first goroutine spawns many that go round, and goes round with them.
func (d *dice) crowd(t *testing.T, many int, words []string) api.Program {
	size := 3 + d.below(8)
	body := d.lines(words, size, 2)
	body[len(body)-1] = fmt.Sprint([]string{"", "* "}[d.below(2)], "jump ", d.below(3))
	l := []string{"func"}
	for range many {
		l = append(l, fmt.Sprint("const r1 ", d.below(7)), fmt.Sprint("spawn r1 ", 1+d.below(2)))
	}
	l = append(l, "call 1", "exit")
	l = append(l, body...)
	l = append(l, d.lines(words, size, 2)...)
	p, line, fault := asm.Parse(strings.Join(l, "\n") + "\n")
	if fault != api.OK {
		t.Fatal(line, l)
	}
	for fn := 1; fn < 3; fn++ { // nobody calls the first function, and ids are of those that are there
		for i := range p.Funcs[fn].Code {
			x := &p.Funcs[fn].Code[i]
			if x.Op == api.OpConst {
				x.N = int64(1 + d.below(many+1))
			}
			if x.Op == api.OpCall || x.Op == api.OpSpawn {
				x.N = 1 + x.N%2
			}
			if x.Op == api.OpSuspend || x.Op == api.OpResume || x.Op == api.OpReady {
				x.A = d.below(4)
			}
		}
	}
	return valid.Mend(p)
}

func TestCrowds(t *testing.T) { // P2803 to P2809
	d := &dice{5}
	mixes := []string{
		"const const suspend suspend resume resume nop stop start",
		"const suspend suspend resume stop start nop nop",
		"const suspend resume stop start nop resize barrier",
		"const suspend suspend stop start stop start nop yield resume",
		"nop nop barrier suspend resume const sys stop start",
		"const ready block ready suspend resume resume yield barrier barrier stop start sys",
	}
	programs := 1000
	if testing.Short() {
		programs = 150
	}
	for n := range programs {
		many := 2 + d.below(6)
		p := d.crowd(t, many, weights(mixes[n%len(mixes)]))
		c := api.Conf{Procs: 1 + d.below(7), Gs: many + 1 + d.below(3), Ms: 1 + d.below(8)}
		if n%2 == 0 {
			c.Ms = 8
		}
		a := newAuditor(t, p, c, c.Ms+1+d.below(30))
		if n%5 == 0 {
			a.k = 0
			a.runWild(d, 800)
			continue
		}
		a.runFair(d, 800)
	}
}
