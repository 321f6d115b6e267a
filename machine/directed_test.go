package machine_test

import (
	"slices"
	"strings"
	"testing"

	"escapement/api"
)

// families: programs that come often to where things meet: calls, stops, suspends, barriers, resizes.
var families = []string{
	// who is in sys is suspended, and resumed
	"func;spawn r1 1;const r2 2;suspend r2;const r2 2;resume r2;jump 1;func;const r0 3;* sys r0;emit r0;jump 1",
	// who is in sys, while the world is stopped
	"func;spawn r1 1;spawn r1 1;spawn r1 1;stop;nop;start;nop;jump 3;func;const r0 3;* sys r0;spawn r1 2;jump 1;func;nop;yield;exit",
	// more and fewer processors
	"func;spawn r1 1;spawn r1 1;spawn r1 1;spawn r1 2;const r3 1;const r4 5;stop;resize r3;start;nop;nop;const r3 1;stop;resize r4;start;const r4 5;jump 5;func;nop;* nop;yield;jump 0;func;* sys r1;barrier;jump 0",
	// each suspends the other ones
	"func;spawn r1 1;spawn r1 2;const r2 2;suspend r2;const r2 3;suspend r2;const r2 2;resume r2;const r2 3;resume r2;jump 2;func;const r2 1;suspend r2;const r2 3;suspend r2;const r2 1;resume r2;const r2 3;resume r2;jump 0;func;const r2 2;suspend r2;const r2 1;suspend r2;const r2 1;resume r2;const r2 2;resume r2;jump 0",
	// several wait for one that is suspended
	"func;spawn r1 1;spawn r1 2;spawn r1 2;nop;nop;const r2 2;resume r2;yield;jump 4;func;nop;* jump 0;func;const r2 2;suspend r2;nop;jump 0",
	// tokens
	"func;spawn r1 1;const r2 2;ready r2;nop;const r2 2;ready r2;block;jump 1;func;const r2 1;ready r2;block;emit r2;const r2 1;ready r2;block;jump 0",
	// who is blocked is suspended, made ready, and resumed
	"func;spawn r1 1;const r2 2;suspend r2;const r2 2;ready r2;const r2 2;resume r2;nop;jump 1;func;block;emit r1;jump 0",
	// barriers by those that are in calls, and go round
	"func;spawn r1 1;spawn r1 2;spawn r1 2;barrier;nop;jump 3;func;const r0 2;* sys r0;jump 1;func;nop;nop;* jump 1",
	// who waits for its turn at the world is suspended
	"func;spawn r1 1;spawn r1 1;const r2 2;suspend r2;const r2 3;suspend r2;const r2 2;resume r2;const r2 3;resume r2;jump 2;func;stop;nop;start;barrier;jump 0",
	// who is suspended by the holder
	"func;spawn r1 1;spawn r1 2;stop;const r2 2;suspend r2;const r2 3;suspend r2;start;nop;const r2 2;resume r2;const r2 3;resume r2;jump 2;func;nop;* jump 1;func;const r2 2;suspend r2;const r2 2;resume r2;block;jump 0",
	// what begins is stopped by others
	"func;spawn r1 1;spawn r1 2;spawn r1 3;stop;start;jump 3;func;const r2 4;suspend r2;const r2 4;resume r2;jump 0;func;const r2 2;suspend r2;const r2 2;resume r2;jump 0;func;nop;nop;nop;* jump 1",
}

func TestFamilies(t *testing.T) { // P2803 to P2809
	d := &dice{41}
	for _, lines := range families {
		p := program(t, strings.Split(lines, ";")...)
		for round := range 40 {
			c := api.Conf{Procs: 1 + d.below(4), Gs: 8, Ms: 1 + d.below(4)}
			a := newAuditor(t, p, c, c.Ms+1+d.below(9))
			if round%3 == 0 {
				a.k = 0
				a.runWild(d, 500)
			} else {
				a.runFair(d, 500)
			}
		}
	}
}

func TestDelay(t *testing.T) { // P2802: how long a signal is under way
	trace := func(delay int) (string, int) {
		m := of(t, conf(2, 2, 2), "func", "spawn r0 1", "const r5 60", "const r6 1", "sub r5 r5 r6", "if r5 3", "stop", "jump 6", "func", "nop", "* nop", "jump 1")
		seen, begun, after := "", false, 0
		for i := range 700 {
			e := api.Entry{Pick: i, Delay: delay}
			if begun {
				e.Pick = 1
				if m.Snap().MG[1] == 0 {
					e.Pick = 0
				}
			}
			event, ok := m.Step(e)
			if !ok {
				continue
			}
			seen += told([]api.Event{event})
			begun = begun || event.Kind == api.EvBegin
			if begun && event.G == 2 {
				after++
			}
		}
		if m.Snap().Holder != 1 {
			t.Error("it does not hold the world")
		}
		return seen, after
	}
	short, few := trace(0)
	if few > 3 {
		t.Error("it goes on for", few)
	}
	long, many := trace(20)
	if many < 18 || many > 24 {
		t.Error("it goes on for", many)
	}
	if short == long {
		t.Error("a delay changes nothing")
	}
	for delay := 18; delay < 24; delay++ {
		once, _ := trace(delay)
		round, _ := trace(delay + 65)
		back, _ := trace(delay - 65)
		if round != once || back != once {
			t.Error("a delay does not go round", delay)
		}
	}
}

func TestSuspendBound(t *testing.T) { // P2808: who goes round far from a prologue is asked by a signal
	m := of(t, conf(3, 3, 3), "func", "spawn r0 1", "spawn r0 2", "const r5 60", "const r6 1", "sub r5 r5 r6", "if r5 4", "const r1 2", "suspend r1", "* jump 8", "func", "nop", "nop", "* jump 1", "func", "nop", "* jump 1")
	begun, done := 0, 0
	for i := range 3000 {
		e, seen := m.Step(api.Entry{Pick: i, Delay: 3})
		if seen && e.Kind == api.EvBegin {
			begun = i
			is(t, "it runs", "2", m.Snap().Status[1])
		}
		if seen && e.Kind == api.EvCommit && e.G == 1 && e.PC == 7 && done == 0 {
			done = i
			is(t, "it is suspended", "1 13", e.N, m.Snap().Status[1])
		}
	}
	if begun == 0 || done == 0 || done-begun > 4*(17*2+16) {
		t.Error("begun", begun, "done", done)
	}
}

func TestProcessorsAreUsedAgain(t *testing.T) { // P2809: a processor that was idle, or stopped, is taken again
	m := of(t, conf(2, 60, 3), "func", "nop", "spawn r1 1", "call 2", "call 2", "jump 1", "func", "nop", "nop", "nop", "exit", "func", "const r5 30", "const r6 1", "sub r5 r5 r6", "if r5 2", "ret")
	both := []int{}
	for i := range 6000 {
		m.Step(api.Entry{Pick: i, Draw: i})
		if s := m.Snap(); s.PStatus[0] == api.PRunning && s.PStatus[1] == api.PRunning && s.MG[0] != 0 && s.MG[1] != 0 {
			both = append(both, i)
		}
	}
	if len(both) < 50 || both[len(both)-1] < 3000 {
		t.Error("processors are lost", len(both))
	}
	m = of(t, conf(3, 4, 4), "func", "stop", "start", "spawn r1 1", "spawn r1 1", "jump 4", "func", "nop", "jump 0")
	m.Run(robin(600, 1))
	is(t, "behind a start", "[1 1 1] [2 2 2]", m.Snap().PStatus, m.Snap().Status)
}

func TestOrder(t *testing.T) { // P4: those that wait go in their order
	m := of(t, conf(1, 6, 1), "func", "spawn r1 1", "spawn r1 1", "spawn r1 1", "spawn r1 1", "spawn r1 1", "yield", "const r2 4", "stop", "suspend r2", "start", "exit", "func", "self r1", "emit r1", "yield", "yield", "yield", "block", "exit")
	for range 400 {
		before := m.Snap()
		e, seen := m.Step(api.Entry{})
		after := m.Snap()
		if seen && e.PC == 8 && e.Func == 0 {
			gone := func(l []int) []int {
				return slices.DeleteFunc(slices.Clone(l), func(g int) bool { return g == 4 })
			}
			is(t, "suspended", "1", e.N)
			if !slices.Equal(after.Queues[0], gone(before.Queues[0])) || !slices.Equal(after.Global, gone(before.Global)) {
				t.Error("order", before.Queues, before.Global, after.Queues, after.Global)
			}
		}
	}
	is(t, "at the end", "[6 4 4 13 4 4]", m.Snap().Status)
}

func TestSys(t *testing.T) { // P2804, P2805: who is in sys has a processor with him, till the world is stopped
	m := of(t, conf(2, 2, 2), "func", "spawn r1 1", "const r5 9", "const r6 1", "sub r5 r5 r6", "if r5 3", "stop", "jump 6", "func", "const r0 3", "* sys r0", "emit r0", "jump 1")
	with, without := 0, 0
	for i := range 300 {
		pick := i
		if m.Snap().Holder == 0 && m.Live() > 1 && m.Snap().Status[1] == api.GSyscall {
			pick = 0 // it stays where it is while the world is stopped
		}
		m.Step(api.Entry{Pick: pick})
		s := m.Snap()
		if len(s.Status) < 2 || s.Status[1] != api.GSyscall {
			continue
		}
		at := slices.Index(s.MG, 2)
		if s.MP[at] >= 0 {
			is(t, "in sys", "2", s.PStatus[s.MP[at]])
			with++
		} else {
			is(t, "its processor was stopped", "3 -1", s.PStatus[1], s.PM[1])
			without++
		}
	}
	if with == 0 || without == 0 {
		t.Error("it was not seen in sys", with, without)
	}
	is(t, "at the end it waits", "1 [2 1] [2]", m.Snap().Holder, m.Snap().Status, m.Snap().Global)
}
