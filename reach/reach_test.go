package reach_test

import (
	"fmt"
	"math"
	"strings"
	"testing"

	"escapement/api"
	"escapement/asm"
	"escapement/gen"
	"escapement/model"
	. "escapement/reach"
	"escapement/valid"
)

func is(t *testing.T, what string, want string, got ...any) {
	t.Helper()
	if s := fmt.Sprintln(got...); s != want+"\n" {
		t.Errorf("%s: %s, not %s", what, s, want)
	}
}

func program(t *testing.T, lines ...string) api.Program {
	t.Helper()
	p, line, f := asm.Parse(strings.Join(lines, "\n") + "\n")
	if f != api.OK {
		t.Fatal("line", line, lines)
	}
	return valid.Mend(p)
}

func conf(gs int) api.Conf { return api.Conf{Procs: 1, Gs: gs, Ms: 1} }

func found(t *testing.T, p api.Program, gs, depth int) string {
	t.Helper()
	r, f := Search(p, conf(gs), depth)
	return fmt.Sprint(r, int(f))
}
func next(p api.Program, gs int, l ...api.Event) string {
	all, f := Next(p, conf(gs), l)
	return fmt.Sprint(all, int(f))
}

func TestNext(t *testing.T) { // P3701
	p := program(t, "func", "spawn r1 1", "stop", "emit r1", "suspend r1", "exit", "func", "const r0 9", "emit r0", "barrier", "exit")
	spawn := api.Event{Kind: 2, G: 1, N: 2}
	is(t, "one", "[{2 1 0 0 2}] 0", next(p, 2))
	is(t, "no room", "[{2 1 0 0 -1}] 0", next(p, 1))
	is(t, "two, in order", "[{1 1 0 1 0} {2 2 1 0 0}] 0", next(p, 2, spawn))
	begun := []api.Event{spawn, {Kind: 1, G: 1, PC: 1}, {Kind: 2, G: 2, Func: 1}}
	is(t, "begun", "[{2 1 0 1 0} {2 2 1 1 9}] 0", next(p, 2, begun...))
	is(t, "held", "[{2 1 0 2 2}] 0", next(p, 2, append(begun, api.Event{Kind: 2, G: 1, PC: 1})...))
	is(t, "waits for its turn", "[{2 1 0 1 0}] 0", next(p, 2, append(begun, api.Event{Kind: 2, G: 2, Func: 1, PC: 1, N: 9})...))
	is(t, "not allowed", "[] 9 [] 9", next(p, 2, spawn, spawn), next(p, 2, api.Event{}))
	is(t, "faults", "[] 1 [] 2", next(api.Program{}, 2), next(p, 0))
	is(t, "done", "[] 0", next(program(t, "func", "exit"), 1, api.Event{Kind: 2, G: 1}))
}

func TestSearch(t *testing.T) { // P3702
	p := program(t, "func", "block", "exit")
	is(t, "example", "{2 1 0 0 true} 0 {1 0 0 0 false} 0", found(t, p, 1, 5), found(t, p, 1, 0))
	is(t, "at the depth", "{2 1 0 0 true} 0", found(t, p, 1, 1))
	p = program(t, "func", "stop", "start", "exit")
	is(t, "held, done", "{5 0 1 1 true} 0 {4 0 0 1 false} 0 {2 0 0 0 false} 0", found(t, p, 1, 40), found(t, p, 1, 3), found(t, p, 1, 1))
	is(t, "goes round", "{1 0 0 0 true} 0", found(t, program(t, "func", "jump 0"), 1, 0))
	p = program(t, "func", "self r1", "ready r1", "jump 1")
	is(t, "a token makes another state", "{4 0 0 0 true} 0", found(t, p, 1, 40))
	p = program(t, "func", "self r1", "ready r1", "block", "jump 0")
	is(t, "a token goes", "{5 0 0 0 true} 0", found(t, p, 1, 40))
	p = program(t, "func", "self r1", "add r2 r2 r1", "jump 0")
	is(t, "too many", "{31 0 0 0 false} 0 {0 0 0 0 false} 2", found(t, p, 1, 30), found(t, program(t, "func", "spawn r1 0", "self r1", "add r2 r2 r1", "jump 0"), 9, 40))
	is(t, "faults", "{0 0 0 0 false} 1 {0 0 0 0 false} 2 {0 0 0 0 false} 2 {0 0 0 0 false} 2 {0 0 0 0 false} 2", found(t, api.Program{}, 1, 50), found(t, p, 0, 50), found(t, p, 1, -1), found(t, p, 1, 41), found(t, p, 1, math.MaxInt))
}

func TestStuck(t *testing.T) { // P3703
	p := program(t, "func", "spawn r1 1", "block", "exit", "func", "const r0 1", "ready r0", "exit")
	l, ok := Stuck(p, conf(2), 12)
	is(t, "not stuck", "[] false", l, ok)
	l, ok = Stuck(program(t, "func", "spawn r1 1", "nop", "block", "exit", "func", "exit"), conf(2), 12)
	is(t, "one of the shortest", "4 true", len(l), ok)
	if at, f := model.Check(program(t, "func", "spawn r1 1", "nop", "block", "exit", "func", "exit"), conf(2), l); f != api.OK {
		t.Error("not allowed", at)
	}
	l, ok = Stuck(program(t, "func", "nop", "nop", "block", "exit"), conf(1), 2)
	is(t, "deeper", "[] false", l, ok)
	for _, depth := range []int{-1, 13, math.MaxInt, math.MinInt} {
		l, ok = Stuck(program(t, "func", "block", "exit"), conf(1), depth)
		is(t, fmt.Sprint("depth ", depth), "[] false", l, ok)
	}
	l, ok = Stuck(api.Program{}, conf(1), 3)
	m, also := Stuck(program(t, "func", "block", "exit"), conf(1), 1)
	is(t, "fault, edge", "[] false [{2 1 0 0 0}] true", l, ok, m, also)
	l, ok = Stuck(program(t, "func", "spawn r2 0", "suspend r2", "exit"), conf(3), 12)
	is(t, "suspended for good", "true", ok && len(l) > 0)
}

func TestLaw(t *testing.T) { // P3704
	for n := range 40 {
		p, _ := gen.Random(uint64(n), 1+n%2, 3+n%9)
		last, closed := 0, false
		for depth := range 8 {
			r, f := Search(p, conf(1+n%3), depth)
			if f != api.OK {
				break
			}
			if r.States < last || closed && r.States != last || closed && !r.Closed {
				t.Fatal(n, depth, r, last)
			}
			last, closed = r.States, r.Closed
		}
	}
}
