package lint_test

import (
	"fmt"
	"slices"
	"strings"
	"testing"

	"escapement/api"
	"escapement/asm"
	"escapement/flow"
	"escapement/gen"
	. "escapement/lint"
	"escapement/machine"
	"escapement/script"
	"escapement/valid"
)

func is(t *testing.T, what string, want string, got ...any) {
	t.Helper()
	if s := fmt.Sprintln(got...); s != want+"\n" {
		t.Errorf("%s: %s, not %s", what, s, want)
	}
}

func program(t *testing.T, text string) api.Program {
	t.Helper()
	p, line, f := asm.Parse(strings.ReplaceAll(text, ";", "\n") + "\n")
	if f != api.OK {
		t.Fatal("line", line, text)
	}
	return valid.Mend(p)
}

func text(t *testing.T, p string) string {
	t.Helper()
	s, f := Text(program(t, p))
	return fmt.Sprint(strings.ReplaceAll(s, "\n", ";"), int(f))
}

func TestCheck(t *testing.T) { // P3801
	is(t, "numbers", "1 2 3 4 5", Unreached, Unused, Endless, Dead, Deep)
	l, f := Check(program(t, "func;exit;exit"))
	is(t, "example", "[{1 0 1}] 0", l, int(f))
	is(t, "nothing", "0", text(t, "func;nop;exit"))
	is(t, "Unused", "unused 1 -1;unused 3 -1;0", text(t, "func;call 2;exit;func;call 3;ret;func;ret;func;ret"))
	is(t, "Endless", "endless 0 -1;0", text(t, "func;nop;jump 1"))
	is(t, "Deep", "deep 0 -1;deep 1 -1;0", text(t, "func;call 1;exit;func;spawn r0 2;call 1;ret;func;ret"))
	is(t, "not by a spawn, nor where it is not reached", "unreached 0 2;unreached 0 3;0", text(t, "func;spawn r0 0;exit;call 0;exit"))
	is(t, "by a longer way", "deep 0 -1;deep 1 -1;0", text(t, "func;call 1;exit;func;call 0;ret"))
	is(t, "of one that has none", "deep 0 -1;unused 1 -1;deep 1 -1;0", text(t, "func;call 0;exit;func;call 0;ret"))
	is(t, "Dead", "dead 0 1;0", text(t, "func;const r1 1;add r1 r1 r1;const r1 2;const r2 3;exit"))
	is(t, "Dead ops", "dead 0 0;dead 0 2;dead 0 4;dead 0 6;0", text(t, "func;sub r0 r1 r2;const r0 1;mul r3 r1 r2;const r3 1;less r4 r1 r2;const r4 1;add r5 r0 r0;const r5 1;exit"))
	is(t, "not Dead", "0", text(t, "func;self r1;const r1 1;if r1 0;const r1 2;emit r1;const r1 5;add r1 r1 r1;exit"))
	is(t, "Unreached ahead of Dead", "unreached 0 1;unreached 0 2;0", text(t, "func;jump 3;const r1 1;const r1 2;exit"))
	is(t, "in order", "unused 1 -1;endless 1 -1;deep 1 -1;dead 1 0;unreached 1 4;0", text(t, "func;exit;func;const r1 1;const r1 2;call 1;jump 1;exit"))
	l, f = Check(api.Program{})
	s, g := Text(api.Program{})
	is(t, "may not run", "true 1  1", l == nil, int(f), s, int(g))
}

func TestEffects(t *testing.T) { // P3802
	l, f := Effects(program(t, "func;call 1;exit;emit r0;exit;func;spawn r0 2;call 2;call 1;ret;func;yield;nop;ret"))
	is(t, "Effects", "[[0 8 9 10 11 14] [0 8 9 10 11] [0 9 11]] 0", l, int(f))
	l, f = Effects(api.Program{})
	is(t, "may not run", "true 1", l == nil, int(f))
}

func TestDepth(t *testing.T) { // P3803
	n, ok := Depth(program(t, "func;call 1;call 2;exit;func;call 2;ret;func;ret;func;ret"))
	is(t, "Depth", "3 true", n, ok)
	n, ok = Depth(program(t, "func;exit;func;call 1;ret"))
	m, also := Depth(api.Program{})
	is(t, "none", "0 false 0 false", n, ok, m, also)
	chain := "func;exit"
	for fn := range 15 {
		chain += fmt.Sprint(";func;call ", fn, ";ret")
	}
	n, ok = Depth(program(t, chain))
	is(t, "most", "16 true", n, ok)
}

func TestLine(t *testing.T) { // P3804
	is(t, "Line", "unreached 1 2|unused 3 -1|endless 0 0|dead 0 1|deep 0 -5| 1 2| 0 0| 7 7", strings.Join([]string{Line(Warning{1, 1, 2}), Line(Warning{2, 3, -1}), Line(Warning{3, 0, 0}), Line(Warning{4, 0, 1}), Line(Warning{5, 0, -5}), Line(Warning{6, 1, 2}), Line(Warning{}), Line(Warning{-1, 7, 7})}, "|"))
}

func TestLaw(t *testing.T) { // P3805
	for n := range 60 {
		p, _ := gen.Random(uint64(n), 1+n%5, 5+n%30)
		effects, _ := Effects(p)
		m, _ := machine.New(p, api.Conf{Procs: 2, Gs: 4, Ms: 3})
		for _, e := range m.Run(script.Robin(400, n%4)) {
			if !flow.Reach(p.Funcs[e.Func])[e.PC] || !slices.Contains(effects[e.Func], p.Funcs[e.Func].Code[e.PC].Op) {
				t.Fatal(n, e)
			}
		}
	}
}
