package asm_test

import (
	"fmt"
	"math"
	"testing"

	"escapement/api"
	. "escapement/asm"
	"escapement/code"
	"escapement/isa"
)

func is(t *testing.T, what string, want string, got ...any) {
	t.Helper()
	if s := fmt.Sprintln(got...); s != want+"\n" {
		t.Errorf("%s: %s, not %s", what, s, want)
	}
}

func TestNumber(t *testing.T) { // P1001
	for s, want := range map[string]string{
		"0": "0 true", "-1": "-1 true", "907": "907 true", "9223372036854775807": "9223372036854775807 true", "-9223372036854775808": "-9223372036854775808 true",
		"": "0 false", "-": "0 false", "-0": "0 false", "00": "0 false", "01": "0 false", "+1": "0 false", " 1": "0 false", "1 ": "0 false", "9223372036854775808": "0 false", "-9223372036854775809": "0 false", "1_0": "0 false", "0x1": "0 false", "a": "0 false", "--1": "0 false", "٣": "0 false",
	} {
		n, ok := Number(s)
		is(t, "Number of "+s, want, n, ok)
	}
}

func TestLine(t *testing.T) { // P1002
	for _, c := range []struct {
		i    api.Instr
		safe bool
		want string
	}{
		{api.Instr{Op: api.OpConst, N: 5}, true, "* const r0 5 0"},
		{api.Instr{Op: api.OpConst, A: 7, N: math.MinInt64}, false, "const r7 -9223372036854775808 0"},
		{api.Instr{Op: api.OpAdd, A: 1, B: 2, C: 3}, false, "add r1 r2 r3 0"},
		{api.Instr{Op: api.OpIf, A: 1, N: -5}, false, "if r1 -5 0"},
		{api.Instr{Op: api.OpCall, N: 1000}, true, "* call 1000 0"},
		{api.Instr{Op: api.OpExit}, false, "exit 0"},
		{api.Instr{Op: 24}, false, " 1"},
		{api.Instr{Op: api.OpEmit, A: 8}, false, " 1"},
		{api.Instr{Op: api.OpEmit, B: 1}, false, " 1"},
		{api.Instr{Op: api.OpNop, N: 1}, false, " 1"},
	} {
		s, f := Line(c.i, c.safe)
		is(t, fmt.Sprint("Line of ", c.i), c.want, s, f)
	}
}

const example = "func\n* const r0 5\nexit\n"

func TestPrint(t *testing.T) { // P1002
	p := api.Program{Funcs: []api.Func{{Code: []api.Instr{{Op: api.OpConst, N: 5}, {Op: api.OpExit}}, Safe: []bool{true, false}}}}
	s, f := Print(p)
	is(t, "example", example+" 0", s, f)
	s, f = Print(api.Program{})
	is(t, "none", " 0", s, f)
	s, f = Print(api.Program{Funcs: make([]api.Func, 2)})
	is(t, "of no places", "func\nfunc\n 0", s, f)
	p.Funcs[0].Safe = p.Funcs[0].Safe[:1]
	s, f = Print(p)
	is(t, "fewer truths", " 1", s, f)
	s, f = Print(api.Program{Funcs: []api.Func{{Code: []api.Instr{{Op: -1}}, Safe: []bool{true}}}})
	is(t, "no op", " 1", s, f)
}

func TestParse(t *testing.T) { // P1003
	p, n, f := Parse(example)
	is(t, "example", "{[{[{1 0 0 0 5} {14 0 0 0 0}] [true false]}]} 0 0", p, n, f)
	p, n, f = Parse("")
	is(t, "no lines", "0 0 0", len(p.Funcs), n, f)
	for s, want := range map[string]int{
		"func": 1, "exit\n": 1, "\n": 1, "func\n\n": 2, "func\nexit": 2, "func \n": 1, "* func\n": 1, "func\n*exit\n": 2, "func\n*  exit\n": 2, "func\n* * exit\n": 2, "func\n exit\n": 2, "func\nexit \n": 2, "func\nexit 0\n": 2,
		"func\nconst r0\n": 2, "func\nconst r0 05\n": 2, "func\nconst r8 5\n": 2, "func\nconst  r0 5\n": 2, "func\nconst R0 5\n": 2, "func\nconst r0 5 \n": 2, "func\nadd r0 r1\n": 2, "func\nadd r0 r1 r2 r3\n": 2, "func\nnop\njump\n": 3, "func\nnop\njump r0\n": 3, "func\nexit\r\n": 2, "func\nemit r00\n": 2, "func\nemit r\n": 2, "func\nemit r-\n": 2, "func\nnop\n*\n": 3, "func\nnop\n* \n": 3,
	} {
		p, n, f := Parse(s)
		is(t, fmt.Sprintf("Parse of %q", s), fmt.Sprint("true ", want, " 3"), p.Funcs == nil, n, f)
	}
	p, n, f = Parse("func\njump -7\n")
	is(t, "may not run, but is read", "-7 0 0", p.Funcs[0].Code[0].N, n, f)
}

func TestLaw(t *testing.T) { // P1004
	seed := uint64(9)
	below := func(n int) int {
		seed = seed*6364136223846793005 + 1442695040888963407
		return int(seed >> 33 % uint64(n))
	}
	for range 300 {
		p := api.Program{Funcs: make([]api.Func, below(20))}
		for fn := range p.Funcs {
			f := &p.Funcs[fn]
			for range below(70) {
				i := api.Instr{Op: below(24)}
				regs := []*int{&i.A, &i.B, &i.C}
				s, fault := Line(i, false)
				for k := range regs {
					*regs[k] = below(8)
					if s, fault = Line(i, false); fault != api.OK {
						*regs[k] = 0
					}
				}
				if i.N = int64(below(1<<30)) - 1<<29; isa.Target(i.Op) == isa.NoTarget && !isa.Number(i.Op) {
					i.N = 0
				}
				f.Code, f.Safe = append(f.Code, i), append(f.Safe, below(2) == 0)
				_ = s
			}
		}
		text, fault := Print(p)
		back, n, also := Parse(text)
		again, _ := Print(back)
		if fault != api.OK || also != api.OK || n != 0 || !code.Same(p, back) || again != text {
			t.Fatal("there and back", fault, also, n)
		}
	}
}
