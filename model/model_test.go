package model_test

import (
	"fmt"
	"math"
	"strings"
	"testing"

	"escapement/api"
	"escapement/asm"
	. "escapement/model"
	"escapement/valid"
	"escapement/vm"
)

func is(t *testing.T, what string, want string, got ...any) {
	t.Helper()
	if s := fmt.Sprintln(got...); s != want+"\n" {
		t.Errorf("%s: %s, not %s", what, s, want)
	}
}

// program: of lines, mended.
func program(t *testing.T, lines ...string) api.Program {
	t.Helper()
	p, line, f := asm.Parse(strings.Join(lines, "\n") + "\n")
	if f != api.OK {
		t.Fatal("line", line, lines)
	}
	return valid.Mend(p)
}

func of(t *testing.T, gs int, lines ...string) *Model {
	t.Helper()
	m, f := New(program(t, lines...), api.Conf{Procs: 1, Gs: gs, Ms: 1})
	if f != api.OK {
		t.Fatal(f)
	}
	return m
}

// event: of the goroutine where it stands.
func event(m *Model, kind, g int, n int64) api.Event {
	th, _ := m.Thread(g)
	return api.Event{Kind: kind, G: g, Func: th.Func, PC: th.PC, N: n}
}

// play does events, written as b or c, the goroutine, and for c the number; it tells how each was taken.
func play(t *testing.T, m *Model, script string) string {
	t.Helper()
	told := ""
	for _, word := range strings.Fields(script) {
		g, n := int(word[1]-'0'), int64(0)
		kind := api.EvBegin
		if word[0] == 'c' {
			kind = api.EvCommit
			fmt.Sscan(word[3:], &n)
		}
		if m.Do(event(m, kind, g, n)) == api.OK {
			told += "+"
		} else {
			told += "-"
		}
	}
	return told
}

func TestNew(t *testing.T) { // P2701
	p := program(t, "func", "exit")
	m, f := New(api.Program{}, api.Conf{})
	is(t, "may not run", "true 1", m == nil, int(f))
	for _, c := range []api.Conf{{}, {Procs: 257, Gs: 1, Ms: 1}, {Procs: 1, Gs: 65, Ms: 1}, {Procs: 1, Gs: 1, Ms: 0}} {
		m, f := New(p, c)
		is(t, "no Conf", "true 2", m == nil, int(f))
	}
	m, f = New(p, api.Conf{Procs: 1, Gs: 1, Ms: 1})
	th, ok := m.Thread(1)
	is(t, "at first", "0 1 {0 0 [0 0 0 0 0 0 0 0] [] false} true 0 0 false false false", int(f), m.Count(), th, ok, m.Holder(), m.Owner(), m.Blocked(1), m.Suspended(1), m.Begun(1))
	p.Funcs[0].Code[0].Op = api.OpRet
	p.Funcs[0].Code = p.Funcs[0].Code[:0]
	is(t, "its own program", "+", play(t, m, "c1:0"))
}

func TestStopStart(t *testing.T) { // P2702
	m := of(t, 2, "func", "spawn r1 1", "stop", "stop", "block", "start", "start", "stop", "exit", "func", "nop", "stop", "exit")
	is(t, "unbegun", "-+--", play(t, m, "c1:0 c1:2 c1:0 c1:1"))
	is(t, "begin", "+-+", play(t, m, "b1 b1 c2:0"))
	is(t, "owner, and the other one waits", "0 1 true --", m.Holder(), m.Owner(), m.Begun(1), play(t, m, "b2 c2:0"))
	is(t, "holder", "+ 1 1 false", play(t, m, "c1:0"), m.Holder(), m.Owner(), m.Begun(1))
	is(t, "nobody else", "-- false", play(t, m, "c2:0 b2"), m.Can(2))
	is(t, "stop again, block, without begin", "-++ 1", play(t, m, "b1 c1:0 c1:0"), m.Holder())
	is(t, "start", "+ 0 0 + 0", play(t, m, "c1:0"), m.Holder(), m.Owner(), play(t, m, "c1:0"), m.Holder())
	is(t, "the other one", "+-+ 2", play(t, m, "b2 b1 c2:0"), m.Holder())
	is(t, "done, holds no more", "+ 0 0 ++", play(t, m, "c2:0"), m.Holder(), m.Owner(), play(t, m, "b1 c1:0"))
	is(t, "holder exits", "+ 0", play(t, m, "c1:0"), m.Holder())
	is(t, "done", "-", play(t, m, "c1:0"))
}

func TestBarrier(t *testing.T) { // P2702
	m := of(t, 2, "func", "spawn r1 1", "barrier", "stop", "barrier", "exit", "func", "barrier", "exit")
	is(t, "begin", "+-+-", play(t, m, "c1:2 c1:0 b1 b1"))
	is(t, "the other one waits", "1 0 - false true", m.Owner(), m.Holder(), play(t, m, "b2"), m.Can(2), m.Can(1))
	is(t, "commit", "-+ 0 +-+", play(t, m, "c1:1 c1:0"), m.Owner(), play(t, m, "b2 b1 c2:0"))
	is(t, "the holder's", "++-+ 1", play(t, m, "b1 c1:0 b1 c1:0"), m.Owner())
}

func TestSuspend(t *testing.T) { // P2702
	lines := []string{"func", "spawn r1 1", "suspend r1", "suspend r1", "resume r1", "resume r1", "exit", "func", "self r1", "suspend r1", "nop", "suspend r2", "exit"}
	m := of(t, 2, lines...)
	is(t, "unbegun", "+--+-", play(t, m, "c1:2 c1:1 c1:-1 b1 b1"))
	is(t, "of one that lives", "--+ true false", play(t, m, "c1:0 c1:-1 c1:1"), m.Suspended(2), m.Can(2))
	is(t, "who is suspended does nothing", "-", play(t, m, "c2:2"))
	is(t, "register 1 is the answer; itself, without begin", "--+", play(t, m, "b1 c1:1 c1:-1"))
	m = of(t, 2, "func", "spawn r2 1", "suspend r2", "const r2 2", "suspend r2", "const r2 2", "resume r2", "const r2 2", "resume r2", "resume r7", "exit", "func", "self r1", "suspend r1", "suspend r2", "exit")
	is(t, "suspended", "+++++ true", play(t, m, "c1:2 b1 c1:1 c1:0 b1"), m.Suspended(2))
	is(t, "waits for a resume", "--- false", play(t, m, "c1:1 c1:-1 c1:0"), m.Can(1))
	m = of(t, 3, "func", "spawn r2 1", "suspend r2", "const r2 2", "resume r2", "const r2 2", "resume r2", "resume r7", "exit", "func", "self r1", "suspend r1", "suspend r2", "exit")
	is(t, "resume", "++++-+ false", play(t, m, "c1:2 b1 c1:1 c1:0 c1:0 c1:1"), m.Suspended(2))
	is(t, "not suspended; none there", "+-++", play(t, m, "c1:0 c1:1 c1:0 c1:0"))
	is(t, "itself; none there, without begin", "+--+--+", play(t, m, "c2:2 b2 c2:1 c2:-1 b2 c2:0 c2:-1"))
	m = of(t, 2, "func", "spawn r2 1", "suspend r2", "exit", "func", "exit")
	is(t, "one that is done", "++-+-+", play(t, m, "c1:2 c2:0 c1:0 b1 c1:1 c1:0"))
	m = of(t, 2, "func", "spawn r2 1", "stop", "suspend r2", "const r2 2", "suspend r2", "start", "exit", "func", "nop", "exit")
	is(t, "the holder's", "+++-+ true +-+", play(t, m, "c1:2 b1 c1:0 b1 c1:1"), m.Suspended(2), play(t, m, "c1:0 c1:1 c1:-1"))
}

func TestBlockReady(t *testing.T) { // P2702
	m := of(t, 2, "func", "spawn r1 1", "ready r1", "const r1 2", "ready r1", "const r1 2", "ready r1", "const r1 2", "ready r1", "ready r7", "block", "exit", "func", "block", "block", "exit")
	is(t, "blocked", "++ true false -", play(t, m, "c1:2 c2:0"), m.Blocked(2), m.Can(2), play(t, m, "c2:0"))
	is(t, "ready", "-+ false true", play(t, m, "c1:0 c1:1"), m.Blocked(2), m.Can(2))
	is(t, "a token", "++++ false + false", play(t, m, "c1:0 c1:1 c1:0 c1:1"), m.Blocked(2), play(t, m, "c2:0"), m.Blocked(2))
	is(t, "done", "+ +-+", play(t, m, "c2:0"), play(t, m, "c1:0 c1:1 c1:0"))
	is(t, "none there", "-+", play(t, m, "c1:1 c1:0"))
	is(t, "blocked for good", "+ false", play(t, m, "c1:0"), m.Can(1))
	m = of(t, 1, "func", "self r1", "ready r1", "ready r1", "block", "block", "exit")
	is(t, "one token at most", "+++++- true", play(t, m, "c1:1 c1:1 c1:1 c1:0 c1:0 c1:0"), m.Blocked(1))
}

func TestSpawnResizeSelf(t *testing.T) { // P2702
	m := of(t, 2, "func", "const r3 7", "spawn r3 1", "spawn r4 1", "resize r5", "stop", "resize r5", "const r5 256", "resize r5", "const r5 257", "resize r5", "const r5 1", "resize r5", "exit", "func", "self r1", "emit r0", "exit")
	is(t, "spawn", "+-+-+ 2", play(t, m, "c1:0 c1:-1 c1:2 c1:3 c1:-1"), m.Count())
	th, ok := m.Thread(2)
	is(t, "with the register", "{1 0 [7 0 0 0 0 0 0 0] [] false} true", th, ok)
	is(t, "self, emit", "-+-+", play(t, m, "c2:1 c2:2 c2:2 c2:7"))
	is(t, "not of the world that goes on", "-+", play(t, m, "c1:1 c1:0"))
	is(t, "resize", "+ + -+ + -+ + -+ + -+ +", play(t, m, "b1"), play(t, m, "c1:0"), play(t, m, "c1:1 c1:0"), play(t, m, "c1:0"), play(t, m, "c1:0 c1:1"), play(t, m, "c1:0"), play(t, m, "c1:1 c1:0"), play(t, m, "c1:0"), play(t, m, "c1:0 c1:1"), play(t, m, "c1:0"))
}

func TestDo(t *testing.T) { // P2702
	m := of(t, 1, "func", "nop", "exit")
	good := api.Event{Kind: api.EvCommit, G: 1}
	for _, e := range []api.Event{{Kind: 0, G: 1}, {Kind: 3, G: 1}, {Kind: api.EvCommit}, {Kind: api.EvCommit, G: 2}, {Kind: api.EvCommit, G: -1}, {Kind: api.EvCommit, G: math.MinInt}, {Kind: api.EvCommit, G: 1, PC: 1}, {Kind: api.EvCommit, G: 1, Func: 1}, {Kind: api.EvCommit, G: 1, N: 1}, {Kind: api.EvBegin, G: 1}} {
		is(t, fmt.Sprint(e), "9", int(m.Do(e)))
	}
	th, _ := m.Thread(1)
	is(t, "nothing changed", "0 0", th.PC, int(m.Do(good)))
	s := of(t, 1, "func", "stop", "exit")
	is(t, "a Begin's N", "9 0", int(s.Do(api.Event{Kind: api.EvBegin, G: 1, N: 1})), int(s.Do(api.Event{Kind: api.EvBegin, G: 1})))
}

func TestCheck(t *testing.T) { // P2702
	p, c := program(t, "func", "stop", "exit"), api.Conf{Procs: 1, Gs: 1, Ms: 1}
	l := []api.Event{{Kind: api.EvBegin, G: 1}, {Kind: api.EvCommit, G: 1}, {Kind: api.EvCommit, G: 1, PC: 1}}
	for want, l := range map[string][]api.Event{"-1 0": l, "0 9": l[1:], "1 9": append([]api.Event{l[0]}, l...), "3 9": append(l[:3:3], l[2])} {
		at, f := Check(p, c, l)
		is(t, fmt.Sprint(l), want, at, int(f))
	}
	at, f := Check(p, api.Conf{}, l)
	at2, f2 := Check(api.Program{}, api.Conf{}, l)
	at3, f3 := Check(p, c, nil)
	is(t, "faults, and none", "-1 2 -1 1 -1 0", at, int(f), at2, int(f2), at3, int(f3))
}

func TestAsked(t *testing.T) { // P2703, P2704
	m := of(t, 1, "func", "stop", "call 1", "exit", "func", "ret")
	for _, g := range []int{0, 2, -1, math.MinInt, math.MaxInt} {
		th, ok := m.Thread(g)
		is(t, "not there", "{0 0 [0 0 0 0 0 0 0 0] [] false} false false false false false", th, ok, m.Can(g), m.Blocked(g), m.Suspended(g), m.Begun(g))
	}
	is(t, "Can", "true + true + true", m.Can(1), play(t, m, "b1"), m.Can(1), play(t, m, "c1:0"), m.Can(1))
	play(t, m, "c1:0")
	th, _ := m.Thread(1)
	th.Stack[0].PC = 40
	again, _ := m.Thread(1)
	is(t, "new memory", "2", again.Stack[0].PC)
	is(t, "to the end", "++ false", play(t, m, "c1:0 c1:0"), m.Can(1))
	var none *Model
	th, ok := none.Thread(1)
	is(t, "nil", "1 false 0 0 0 false false false false true", int(none.Do(api.Event{Kind: 2, G: 1})), none.Can(1), none.Count(), none.Holder(), none.Owner(), none.Blocked(1), none.Suspended(1), none.Begun(1), ok, vm.Same(th, api.Thread{}))
}

func TestLaw(t *testing.T) { // P2705
	seed := uint64(21)
	below := func(n int) int {
		seed = seed*6364136223846793005 + 1442695040888963407
		return int(seed >> 33 % uint64(n))
	}
	words := strings.Fields("nop const self spawn ready suspend resume stop start barrier block yield if jump emit exit resize")
	held := 0
	for range 300 {
		lines := []string{"func", "spawn r1 0", "const r2 1", "const r3 2"}
		for range 14 {
			switch w := words[below(len(words))]; w {
			case "nop", "stop", "start", "barrier", "block", "yield":
				lines = append(lines, w)
			case "const":
				lines = append(lines, fmt.Sprint("const r", below(4), " ", below(5)))
			case "spawn":
				lines = append(lines, fmt.Sprint("spawn r", below(4), " 0"))
			case "if":
				lines = append(lines, fmt.Sprint("if r", below(4), " ", below(15)))
			case "self", "ready", "suspend", "resume", "emit", "resize":
				lines = append(lines, fmt.Sprint(w, " r", below(4)))
			}
		}
		lines = append(lines, "jump 0")
		p := program(t, lines...)
		if _, _, f := valid.Check(p); f != api.OK {
			continue
		}
		m, _ := New(p, api.Conf{Procs: 1, Gs: 4, Ms: 1})
		for range 400 {
			g := 1 + below(m.Count())
			holder, can, done := m.Holder(), m.Can(g), 0
			for n := int64(-1); n < 6; n++ {
				kind := 1 + below(2)
				if m.Do(event(m, kind, g, n)) == api.OK {
					done++
					break
				}
			}
			if done > 0 && !can {
				t.Fatal("it could not")
			}
			if done > 0 && holder != 0 && g != holder {
				t.Fatal("another one did something")
			}
			if m.Holder() != 0 {
				held++
				if m.Owner() != m.Holder() {
					t.Fatal("holder and owner")
				}
			}
		}
	}
	if held < 100 {
		t.Error("hardly ever held", held)
	}
}
