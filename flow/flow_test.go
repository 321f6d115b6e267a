package flow_test

import (
	"fmt"
	"math"
	"testing"

	"escapement/api"
	. "escapement/flow"
)

func is(t *testing.T, what string, want string, got ...any) {
	t.Helper()
	if s := fmt.Sprintln(got...); s != want+"\n" {
		t.Errorf("%s: %s, not %s", what, s, want)
	}
}

func op(op int, n int64) api.Instr { return api.Instr{Op: op, N: n} }

// fun: of instructions, with these places safe.
func fun(l []api.Instr, safe ...int) api.Func {
	f := api.Func{Code: l, Safe: make([]bool, len(l))}
	for _, pc := range safe {
		f.Safe[pc] = true
	}
	return f
}

func gap(f api.Func) string {
	n, ok := Gap(f)
	return fmt.Sprint(n, ok)
}

func TestNext(t *testing.T) { // P801
	f := fun([]api.Instr{op(api.OpIf, 3), op(api.OpJump, 0), op(api.OpIf, 3), op(api.OpRet, 0), op(api.OpExit, 0), op(api.OpJump, 9), op(api.OpIf, -1), op(api.OpCall, 1), op(api.OpNop, 0)})
	want := "[1 3] [0] [3] [] [] [] [7] [8] []"
	is(t, "Next", want, Next(f, 0), Next(f, 1), Next(f, 2), Next(f, 3), Next(f, 4), Next(f, 5), Next(f, 6), Next(f, 7), Next(f, 8))
	is(t, "back", "[0 2]", Next(fun([]api.Instr{{}, op(api.OpIf, 0), {}}), 1))
	is(t, "no places", "[] [] [] []", Next(f, -1), Next(f, 9), Next(f, math.MaxInt), Next(api.Func{}, 0))
}

func TestReach(t *testing.T) { // P801
	f := fun([]api.Instr{op(api.OpJump, 2), op(api.OpNop, 0), op(api.OpIf, 4), op(api.OpExit, 0), op(api.OpExit, 0), op(api.OpJump, 1)})
	is(t, "Reach", "[true false true true true false]", Reach(f))
	is(t, "none", "[]", Reach(api.Func{}))
	most := fun(make([]api.Instr, 64))
	is(t, "most", "true true", Reach(most)[0], Reach(most)[63])
}

func TestGap(t *testing.T) { // P802
	is(t, "place 0 is not open", "0 true", gap(fun([]api.Instr{op(api.OpJump, 0)})))
	is(t, "comes next to itself", "0 false", gap(fun([]api.Instr{{}, op(api.OpJump, 1)})))
	is(t, "safe", "0 true", gap(fun([]api.Instr{{}, op(api.OpJump, 1)}, 1)))
	is(t, "a row", "3 true", gap(fun([]api.Instr{{}, {}, {}, op(api.OpExit, 0)})))
	is(t, "cut in two", "2 true", gap(fun([]api.Instr{{}, {}, {}, {}, {}, op(api.OpExit, 0)}, 3)))
	is(t, "not reached, but round", "0 false", gap(fun([]api.Instr{op(api.OpExit, 0), op(api.OpJump, 2), op(api.OpJump, 1)})))
	is(t, "two ways, the longer one", "5 true", gap(fun([]api.Instr{{}, op(api.OpIf, 4), {}, {}, {}, op(api.OpRet, 0)})))
	is(t, "a place that is left and met again", "4 true", gap(fun([]api.Instr{{}, op(api.OpIf, 3), {}, {}, op(api.OpRet, 0)})))
	is(t, "beyond Safe", "2 true", gap(api.Func{Code: make([]api.Instr, 3), Safe: []bool{true}}))
	is(t, "none", "0 true", gap(api.Func{}))
	is(t, "most", "63 true", gap(fun(make([]api.Instr, 64))))
}

func TestLongestBound(t *testing.T) { // P802
	p := api.Program{Funcs: []api.Func{fun([]api.Instr{{}, op(api.OpExit, 0)}), fun([]api.Instr{{}, {}, {}, op(api.OpExit, 0)})}}
	n, ok := Longest(p)
	b, also := Bound(p)
	is(t, "greatest", "3 true 68 true", n, ok, b, also)
	p.Funcs = append(p.Funcs, fun([]api.Instr{{}, op(api.OpJump, 1)}))
	n, ok = Longest(p)
	b, also = Bound(p)
	is(t, "none", "0 false 0 false", n, ok, b, also)
	most := api.Program{Funcs: make([]api.Func, 16)}
	most.Funcs[15] = fun([]api.Instr{{}, {}, op(api.OpExit, 0)})
	n, ok = Longest(most)
	b, also = Bound(most)
	is(t, "most functions", "2 true 51 true", n, ok, b, also)
	n, ok = Longest(api.Program{})
	b, also = Bound(api.Program{})
	is(t, "no function", "0 true 17 true", n, ok, b, also)
}

func TestCallsUsed(t *testing.T) { // P803
	p := api.Program{Funcs: []api.Func{
		fun([]api.Instr{op(api.OpSpawn, 3), op(api.OpCall, 1), op(api.OpCall, 3), op(api.OpJump, 2), op(api.OpCall, 9), op(api.OpCall, 5), op(api.OpCall, -1)}),
		fun([]api.Instr{op(api.OpCall, 1)}), fun([]api.Instr{op(api.OpCall, 4)}), fun([]api.Instr{op(api.OpCall, 0)}), {},
	}}
	is(t, "Calls", "[1 3] [1] [4] [0] [] [] []", Calls(p, 0), Calls(p, 1), Calls(p, 2), Calls(p, 3), Calls(p, 4), Calls(p, 5), Calls(p, -1))
	is(t, "Used", "[true true false true false]", Used(p))
	is(t, "none", "[]", Used(api.Program{}))
	most := api.Program{Funcs: make([]api.Func, 16)}
	most.Funcs[0] = fun([]api.Instr{op(api.OpCall, 15)})
	is(t, "most", "true false true", Used(most)[0], Used(most)[1], Used(most)[15])
}

func TestGreat(t *testing.T) { // of greater ones an end
	f := fun(make([]api.Instr, 1<<16))
	p := api.Program{Funcs: make([]api.Func, 1000)}
	p.Funcs[0] = f
	Reach(f)
	Gap(f)
	Next(f, 70)
	Longest(p)
	Bound(p)
	Used(p)
	Calls(p, 0)
}

// open: no thread may be stopped there.
func open(f api.Func, pc int) bool { return pc != 0 && (pc >= len(f.Safe) || !f.Safe[pc]) }

func TestLaw(t *testing.T) { // P804
	seed := uint64(5)
	below := func(n int) int {
		seed = seed*6364136223846793005 + 1442695040888963407
		return int(seed >> 33 % uint64(n))
	}
	bounded := 0
	for range 400 {
		n := 1 + below(12)
		f := fun(make([]api.Instr, n))
		for pc := range n {
			f.Code[pc] = op([]int{api.OpNop, api.OpJump, api.OpIf, api.OpRet}[below(4)], int64(below(n)))
			f.Safe[pc] = below(2) == 0
		}
		most, ok := Gap(f)
		if ok {
			bounded++
		}
		for pc := range n {
			row := 0
			for open(f, pc) {
				row++
				if ok && row > most {
					t.Fatal("more steps than its Gap", f, most)
				}
				next := Next(f, pc)
				if len(next) == 0 || row > n {
					break
				}
				pc = next[below(len(next))]
			}
		}
	}
	if bounded < 50 {
		t.Error("too few with a Gap", bounded)
	}
}
