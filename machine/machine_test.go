package machine_test

import (
	"fmt"
	"math"
	"slices"
	"strings"
	"testing"

	"escapement/alone"
	"escapement/api"
	"escapement/asm"
	. "escapement/machine"
	"escapement/model"
	"escapement/valid"
)

func is(t *testing.T, what string, want string, got ...any) {
	t.Helper()
	if s := fmt.Sprintln(got...); s != want+"\n" {
		t.Errorf("%s: %s, not %s", what, s, want)
	}
}

// program: of lines, mended.
func program(t *testing.T, lines ...string) api.Program {
	t.Helper()
	p, line, f := asm.Parse(strings.Join(lines, "\n") + "\n")
	if f != api.OK {
		t.Fatal("line", line, lines)
	}
	return valid.Mend(p)
}

func conf(procs, gs, ms int) api.Conf { return api.Conf{Procs: procs, Gs: gs, Ms: ms} }

func of(t *testing.T, c api.Conf, lines ...string) *Machine {
	t.Helper()
	m, f := New(program(t, lines...), c)
	if f != api.OK {
		t.Fatal(f)
	}
	return m
}

// robin: so many entries, with Picks from 0 on.
func robin(n, delay int) []api.Entry {
	l := make([]api.Entry, n)
	for i := range l {
		l[i] = api.Entry{Pick: i, Delay: i % (delay + 1), Draw: i}
	}
	return l
}

func told(l []api.Event) string {
	s := ""
	for _, e := range l {
		kind := "b"
		if e.Kind == api.EvCommit {
			kind = "c"
		}
		s += fmt.Sprintf(" %s%d@%d.%d=%d", kind, e.G, e.Func, e.PC, e.N)
	}
	return s
}

func TestNew(t *testing.T) { // P2801
	p := program(t, "func", "exit")
	for _, c := range []struct {
		p    api.Program
		c    api.Conf
		want api.Fault
	}{{api.Program{}, conf(0, 0, 0), 1}, {p, conf(0, 1, 1), 2}, {p, conf(1, 0, 1), 2}, {p, conf(1, 1, 0), 2}, {p, conf(257, 1, 1), 2}, {p, conf(1, 65, 1), 2}, {p, conf(1, 1, 65), 2}, {p, conf(math.MinInt, math.MaxInt, 1), 2}} {
		m, f := New(c.p, c.c)
		is(t, fmt.Sprint(c), fmt.Sprint(true, int(c.want)), m == nil, int(f))
	}
	m, _ := New(p, conf(2, 1, 3))
	is(t, "at first", "{0 [1] [{0 0 [0 0 0 0 0 0 0 0] [] false}] [1 0] [0 -1] [[1] []] [0 0] [0] [0] [false] []}", m.Snap())
	is(t, "counted", "0 1 false", m.Steps(), m.Live(), m.Quiet())
	m.Step(api.Entry{Pick: -7})
	is(t, "steps", "1 1", m.Steps(), m.Live())
	p.Funcs[0].Code[0] = api.Instr{Op: api.OpEmit}
	is(t, "its own program", " c1@0.0=0", told(m.Run(robin(20, 0))))
}

func TestNil(t *testing.T) { // P2801, P2802
	var m *Machine
	e, ok := m.Step(api.Entry{})
	is(t, "nil", "{0 0 0 0 0} false [] 0 0 true", e, ok, m.Run(robin(3, 0)), m.Live(), m.Steps(), m.Quiet())
	is(t, "its snap", "{0 [] [] [] [] [] [] [] [] [] []}", m.Snap())
}

func TestRun(t *testing.T) { // P2802
	m := of(t, conf(1, 1, 1), "func", "emit r0", "exit")
	is(t, "two events", " c1@0.0=0 c1@0.1=0", told(m.Run(make([]api.Entry, 40))))
	is(t, "and nothing more", " true 80", told(m.Run(make([]api.Entry, 40))), m.Quiet(), m.Steps())
	a, b := of(t, conf(2, 2, 2), "func", "spawn r1 0", "self r1", "emit r1", "exit"), of(t, conf(2, 2, 2), "func", "spawn r1 0", "self r1", "emit r1", "exit")
	var seen []api.Event
	for _, e := range robin(60, 0) {
		if event, ok := b.Step(e); ok {
			seen = append(seen, event)
		}
	}
	is(t, "step by step", told(a.Run(robin(60, 0))), told(seen))
}

func TestSnapIsNewMemory(t *testing.T) { // P2802
	m := of(t, conf(2, 2, 2), "func", "call 1", "exit", "func", "nop", "ret")
	m.Run(robin(3, 0))
	want := fmt.Sprint(m.Snap())
	s := m.Snap()
	s.Status[0], s.PStatus[0], s.PM[0], s.Counts[0], s.MP[0], s.MG[0], s.Parked[0] = 9, 9, 9, 9, 9, 9, true
	s.Threads[0].Regs[0] = 9
	for _, th := range s.Threads {
		for i := range th.Stack {
			th.Stack[i].PC = 9
		}
	}
	is(t, "as it was", want, m.Snap())
}

func TestExampleTwo(t *testing.T) { // P2804, P2808
	round := []string{"func", "spawn r0 1", "spawn r0 1", "spawn r0 1", "stop", "jump 4", "func", "nop", "nop", "* jump 1"}
	for delay := range 4 {
		m := of(t, conf(4, 4, 4), round...)
		m.Run(robin(3000, delay))
		s := m.Snap()
		is(t, "the holder goes round", "1 [2 1 1 1] [3 3 3 3]", s.Holder, s.Status, s.PStatus)
		if m.Live() < 3 {
			t.Error("who waits was not helped:", m.Live())
		}
		m = of(t, conf(4, 4, 4), append([]string{"func", "spawn r0 1", "spawn r0 1", "spawn r0 1", "stop", "start", "exit"}, round[6:]...)...)
		m.Run(robin(3000, delay))
		s = m.Snap()
		is(t, "it is done", "0 true 6", s.Holder, s.Threads[0].Done, s.Status[0])
	}
}

func TestSignals(t *testing.T) { // P2808
	// They go round where no prologue is, for some time, ahead of the stop.
	m := of(t, conf(4, 4, 4), "func", "spawn r0 1", "spawn r0 1", "spawn r0 1", "const r5 200", "const r6 1", "sub r5 r5 r6", "if r5 5", "stop", "jump 8", "func", "nop", "nop", "* jump 1")
	begun, held := 0, 0
	for i := range 6000 {
		e, seen := m.Step(api.Entry{Pick: i, Delay: 3})
		if seen && e.Kind == api.EvBegin {
			begun = i
			is(t, "all of them run", "[2 2 2 2]", m.Snap().Status)
		}
		if held == 0 && m.Snap().Holder == 1 {
			held = i
		}
	}
	if begun == 0 || held == 0 || held-begun > 4*(17*2+16) {
		t.Error("begun", begun, "held", held)
	}
	is(t, "they stand still", "[2 1 1 1]", m.Snap().Status)
}

func TestSlices(t *testing.T) { // P2809
	m := of(t, conf(1, 3, 1), "func", "spawn r0 1", "spawn r0 1", "* jump 2", "func", "nop", "* nop", "jump 1")
	n := map[int]int{}
	for _, e := range m.Run(robin(3000, 2)) {
		n[e.G]++
	}
	for g := 1; g <= 3; g++ {
		if n[g] < 500 {
			t.Error("who waits does too little:", n)
		}
	}
}

func TestStuck(t *testing.T) { // P2801, P2809
	for lines, want := range map[string]string{
		"block\n* exit": " c1@0.0=0",
		"self r1\nready r1\n* block\n* emit r1\n* block\n* exit": " c1@0.0=1 c1@0.1=1 c1@0.2=0 c1@0.3=1 c1@0.4=0",
		"* stop\n* block\n* exit":                                " b1@0.0=0 c1@0.0=0 c1@0.1=0 c1@0.2=0",
		"* barrier\n* exit":                                      " b1@0.0=0 c1@0.0=0 c1@0.1=0",
		"* stop\n* barrier\n* sys r0\n* yield\n* exit":           " b1@0.0=0 c1@0.0=0 c1@0.1=0 c1@0.2=0 c1@0.3=0 c1@0.4=0",
		"* sys r0\n* exit":                                       " c1@0.0=0 c1@0.1=0",
		"self r1\n* suspend r1\n* suspend r2\n* exit":            " c1@0.0=1 c1@0.1=-1 c1@0.2=-1 c1@0.3=0",
	} {
		m := of(t, conf(3, 1, 3), append([]string{"func"}, strings.Split(lines, "\n")...)...)
		is(t, lines, want+" true", told(m.Run(robin(300, 2))), m.Quiet())
	}
}

func TestSuspendWaits(t *testing.T) { // P2803, P2805
	// 2 is suspended by 1; 3 waits for that to end; 1 resumes it, and 3 suspends it then.
	m := of(t, conf(1, 3, 1), "func", "spawn r2 1", "suspend r2", "spawn r3 2", "yield", "yield", "const r2 2", "resume r2", "exit", "func", "jump 0", "func", "const r1 2", "suspend r1", "exit")
	seen := m.Run(robin(2000, 0))
	s := m.Snap()
	is(t, "at the end", "[6 13 6] true", s.Status, m.Quiet())
	if at, f := model.Check(program(t, "func", "spawn r2 1", "suspend r2", "spawn r3 2", "yield", "yield", "const r2 2", "resume r2", "exit", "func", "jump 0", "func", "const r1 2", "suspend r1", "exit"), conf(1, 3, 1), seen); f != api.OK {
		t.Error("not allowed", at, told(seen))
	}
}

func TestResize(t *testing.T) { // P2806
	for _, n := range []int{1, 2, 5, 256} {
		a := newAuditor(t, program(t, "func", "spawn r1 1", "spawn r1 1", "spawn r1 1", "yield", "nop", "nop", "stop", fmt.Sprint("const r4 ", n), "resize r4", "emit r4", "start", "jump 4", "func", "yield", "barrier", "jump 0"), conf(3, 4, 4), 60)
		for i := range 4000 {
			a.step(api.Entry{Pick: i, Delay: i % 5, Draw: i * 7})
		}
		if len(a.m.Snap().PStatus) != n {
			t.Error("processors", len(a.m.Snap().PStatus))
		}
	}
	m := of(t, conf(2, 1, 1), "func", "stop", "resize r1", "const r1 257", "resize r1", "const r1 -1", "resize r1", "exit")
	is(t, "no such numbers", " b1@0.0=0 c1@0.0=0 c1@0.1=0 c1@0.2=0 c1@0.3=0 c1@0.4=0 c1@0.5=0 c1@0.6=0", told(m.Run(robin(50, 0))))
	is(t, "as many as there were", "2", len(m.Snap().PStatus))
}

func TestBarrierCounts(t *testing.T) { // P2807
	m := of(t, conf(4, 3, 3), "func", "spawn r1 1", "spawn r1 1", "barrier", "barrier", "stop", "barrier", "start", "exit", "func", "nop", "* nop", "jump 1")
	m.Run(robin(3000, 3))
	is(t, "two of them", "[2 2 2 2]", m.Snap().Counts)
}

func TestAlone(t *testing.T) { // P2810
	d := &dice{31}
	for n := range 150 {
		p := d.program(t, weights("const add sub less self ready block emit emit emit suspend resume spawn resize stop start if sys yield barrier call"))
		m, _ := New(p, conf(1+d.below(5), 1, 1+d.below(5)))
		var emits []int64
		for _, e := range m.Run(robin(500, n%5)) {
			if e.Kind == api.EvCommit && p.Funcs[e.Func].Code[e.PC].Op == api.OpEmit {
				emits = append(emits, e.N)
			}
		}
		all := alone.Emits(p, api.MaxSteps)
		if len(emits) > len(all) || !slices.Equal(emits, all[:len(emits)]) {
			t.Fatal(n, emits, all)
		}
	}
}

func TestPicks(t *testing.T) { // P2802
	m, _ := New(program(t, "func", "spawn r1 0", "jump 0"), conf(3, 3, 3))
	for _, e := range []api.Entry{{Pick: math.MinInt, Delay: math.MinInt, Draw: math.MinInt}, {Pick: math.MaxInt, Delay: math.MaxInt, Draw: math.MaxInt}, {Pick: -1, Delay: -1, Draw: -1}} {
		for range 50 {
			m.Step(e)
		}
	}
	is(t, "all are counted", "150", m.Steps())
}
