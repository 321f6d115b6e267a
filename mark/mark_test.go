package mark_test

import (
	"fmt"
	"math"
	"testing"

	"escapement/api"
	"escapement/code"
	"escapement/flow"
	"escapement/gen"
	. "escapement/mark"
	"escapement/valid"
)

func is(t *testing.T, what string, want string, got ...any) {
	t.Helper()
	if s := fmt.Sprintln(got...); s != want+"\n" {
		t.Errorf("%s: %s, not %s", what, s, want)
	}
}

func op(op int, n int64) api.Instr { return api.Instr{Op: op, N: n} }

// fun: of instructions, with truths, of which * is true.
func fun(safe string, l ...api.Instr) api.Func {
	f := api.Func{Code: l}
	for _, r := range safe {
		f.Safe = append(f.Safe, r == '*')
	}
	return f
}

// stars: of a function marked, its truths, and how many more.
func stars(f api.Func, most int) string {
	g, n := Func(f, most)
	s := ""
	for _, safe := range g.Safe {
		s += map[bool]string{true: "*", false: "."}[safe]
	}
	return fmt.Sprint(s, n)
}

var round = fun("......", op(api.OpNop, 0), op(api.OpNop, 0), op(api.OpIf, 4), op(api.OpJump, 1), op(api.OpIf, 4), op(api.OpJump, 0))

func TestHeadsCost(t *testing.T) { // P3901
	is(t, "Heads", "[0 1 4] [] [0]", Heads(round), Heads(fun("", op(0, 0), op(0, 0))), Heads(fun("", op(api.OpJump, 0))))
	is(t, "none", "[] [] []", Heads(api.Func{}), Heads(api.Func{Code: make([]api.Instr, 65)}), Heads(api.Func{Code: []api.Instr{op(api.OpJump, 0)}, Safe: make([]bool, 65)}))
	is(t, "Cost", "2 3 0 0", Cost(fun("*.*", op(0, 0), op(0, 0), op(0, 0))), Cost(fun("***")), Cost(api.Func{}), Cost(fun("*....*................................................................")))
	is(t, "Cost of too many places", "0", Cost(api.Func{Code: make([]api.Instr, 65), Safe: []bool{true}}))
}

func TestFunc(t *testing.T) { // P3902
	three := fun("....", op(0, 0), op(0, 0), op(0, 0), op(api.OpExit, 0))
	is(t, "example", "..*.1 .***3 ....0 ...*1 .***3 ....0", stars(three, 1), stars(three, 0), stars(three, 3), stars(three, 2), stars(three, math.MinInt), stars(three, math.MaxInt))
	is(t, "those that were there", "*..*1 *.*.0", stars(fun("*", three.Code...), 2), stars(fun("*.*", three.Code...), 1))
	is(t, "heads, but 0", ".*..*.2 .*.**.3 .*****5", stars(round, 9), stars(round, 1), stars(round, 0))
	is(t, "the greatest count of those ahead", "....*1", stars(fun(".....", op(0, 0), op(api.OpIf, 4), op(0, 0), op(0, 0), op(api.OpExit, 0)), 3))
	is(t, "truths beyond its places", "*..0", stars(fun("*..**", op(0, 0), op(0, 0), op(api.OpExit, 0)), 2))
	f, n := Func(api.Func{Code: make([]api.Instr, 65)}, 1)
	g, m := Func(api.Func{Safe: make([]bool, 65)}, 1)
	is(t, "too great", "{[] []} 0 {[] []} 0", f, n, g, m)
	h := fun("....", three.Code...)
	k, _ := Func(h, 0)
	k.Code[0].Op = 9
	is(t, "as it was", "0 [false false false false]", h.Code[0].Op, h.Safe)
	roomy := api.Func{Code: three.Code, Safe: make([]bool, 1, 9)}
	Func(roomy, 0)
	is(t, "its room, too", "[false false false false]", roomy.Safe[:4])
}

func TestProgram(t *testing.T) { // P3903
	p := api.Program{Funcs: []api.Func{fun("....", op(0, 0), op(0, 0), op(0, 0), op(api.OpExit, 0)), round}}
	q, n, f := Program(p, 1)
	is(t, "Program", "4 0 [false false true false] [false true false true true false]", n, int(f), q.Funcs[0].Safe, q.Funcs[1].Safe)
	q, n, f = Program(api.Program{}, 1)
	is(t, "may not run", "true 0 1", q.Funcs == nil, n, int(f))
}

func TestLaw(t *testing.T) { // P3904
	for n := range 120 {
		p, _ := gen.Random(uint64(n), 1+n%16, 1+n%64)
		most := n%7 - 1
		q, more, f := Program(p, most)
		if _, _, fault := valid.Check(q); f != api.OK || fault != api.OK {
			t.Fatal("may not run then", n, f, fault)
		}
		cost := 0
		for fn := range q.Funcs {
			gap, ok := flow.Gap(q.Funcs[fn])
			if !ok || gap > max(most, 0) {
				t.Fatal("Gap", n, fn, gap, ok, most)
			}
			cost += Cost(q.Funcs[fn]) - Cost(p.Funcs[fn])
		}
		again, none, _ := Program(q, most)
		if none != 0 || !code.Same(again, q) || cost != more {
			t.Fatal("marked again", n, none)
		}
	}
}
