package valid_test

import (
	"fmt"
	"math"
	"testing"

	"escapement/api"
	. "escapement/valid"
)

func is(t *testing.T, what string, want string, got ...any) {
	t.Helper()
	if s := fmt.Sprintln(got...); s != want+"\n" {
		t.Errorf("%s: %s, not %s", what, s, want)
	}
}

func fun(safe string, ops ...int) api.Func {
	var f api.Func
	for _, op := range ops {
		f.Code = append(f.Code, api.Instr{Op: op})
	}
	for _, r := range safe {
		f.Safe = append(f.Safe, r == '*')
	}
	return f
}

func check(l ...api.Func) string {
	fn, pc, fault := Check(api.Program{Funcs: l})
	return fmt.Sprint(fn, pc, " ", int(fault))
}

func TestCheck(t *testing.T) { // P901
	good := fun(".", api.OpExit)
	is(t, "example", "-1 -1 0", check(fun("**", api.OpYield, api.OpExit)))
	is(t, "not safe", "0 0 10", check(fun(".*", api.OpYield, api.OpExit)))
	is(t, "behind not safe", "0 0 10", check(fun("*.", api.OpYield, api.OpExit)))
	is(t, "none behind", "0 1 10", check(fun("**", api.OpNop, api.OpBlock)))
	for _, op := range []int{api.OpBlock, api.OpSys, api.OpStop, api.OpBarrier, api.OpSuspend} {
		is(t, "waits", "1 1 10", check(good, fun(".*.", api.OpNop, op, api.OpExit)))
		is(t, "waits, safe", "-1 -1 0", check(good, fun(".**", api.OpNop, op, api.OpExit)))
	}
	is(t, "no function", "-1 -1 6", check())
	is(t, "too many", "-1 -1 5", check(make([]api.Func, 17)...))
	is(t, "no place", "1 -1 6", check(good, api.Func{Safe: []bool{true}}))
	is(t, "too many places", "0 -1 5", check(fun("", make([]int, 65)...)))
	is(t, "fewer truths", "0 -1 9", check(fun(".", api.OpNop, api.OpExit)))
	is(t, "more truths", "0 -1 9", check(fun("..", api.OpExit)))
	is(t, "no op", "0 1 1", check(fun("..", api.OpNop, 24)))
	is(t, "open", "0 1 11", check(fun("..", api.OpNop, api.OpEmit)))
	is(t, "jump at the end", "-1 -1 0", check(fun("..", api.OpNop, api.OpJump)))
	is(t, "ret at the end", "-1 -1 0", check(fun("..", api.OpNop, api.OpRet)))
	bad := fun("..", api.OpJump, api.OpEmit)
	bad.Code[0].N = 2
	is(t, "the first place", "0 0 2", check(bad))
	bad.Code[0].A = 1
	is(t, "isa's fault", "0 0 9", check(bad))
	call := fun("..", api.OpCall, api.OpExit)
	call.Code[0].N = 1
	is(t, "no such function", "0 0 2", check(call))
	is(t, "one that is there", "-1 -1 0", check(call, good))
	is(t, "the first function", "0 1 11", check(fun("..", api.OpNop, api.OpNop), api.Func{}))
	most := fun("................................................................", append(make([]int, 63), api.OpExit)...)
	all := make([]api.Func, 16)
	for i := range all {
		all[i] = most
	}
	is(t, "most", "-1 -1 0", check(all...))
}

func TestConf(t *testing.T) { // P902
	for _, c := range []struct {
		c    api.Conf
		want api.Fault
	}{
		{api.Conf{Procs: 1, Gs: 1, Ms: 1}, api.OK}, {api.Conf{Procs: 256, Gs: 64, Ms: 64}, api.OK}, {api.Conf{}, api.Range},
		{api.Conf{Procs: 257, Gs: 1, Ms: 1}, api.Range}, {api.Conf{Procs: 1, Gs: 65, Ms: 1}, api.Range}, {api.Conf{Procs: 1, Gs: 1, Ms: 65}, api.Range},
		{api.Conf{Procs: 0, Gs: 1, Ms: 1}, api.Range}, {api.Conf{Procs: 1, Gs: 0, Ms: 1}, api.Range}, {api.Conf{Procs: 1, Gs: 1, Ms: -1}, api.Range}, {api.Conf{Procs: math.MinInt, Gs: math.MaxInt, Ms: 1}, api.Range},
	} {
		is(t, fmt.Sprint(c.c), fmt.Sprint(int(c.want)), int(Conf(c.c)))
	}
}

func TestMend(t *testing.T) { // P903
	p := api.Program{Funcs: []api.Func{fun("*", api.OpNop, api.OpNop, api.OpBlock, api.OpExit, api.OpStop), fun("**.*", api.OpExit, 99), {}}}
	q := Mend(p)
	is(t, "mended", "[true false true true true] [true true] []", q.Funcs[0].Safe, q.Funcs[1].Safe, q.Funcs[2].Safe)
	q.Funcs[0].Code[0].Op = 5
	q.Funcs[0].Safe[1] = true
	is(t, "as it was", "0 [true]", p.Funcs[0].Code[0].Op, p.Funcs[0].Safe)
	roomy := api.Program{Funcs: []api.Func{{Code: fun("", api.OpYield, api.OpExit).Code, Safe: make([]bool, 1, 4)}}}
	Mend(roomy)
	is(t, "its room, too", "[false false false false]", roomy.Funcs[0].Safe[:4])
	is(t, "none", "0", len(Mend(api.Program{}).Funcs))
	is(t, "may run then", "-1 -1 0", check(Mend(api.Program{Funcs: []api.Func{fun("", api.OpYield, api.OpSys, api.OpExit)}}).Funcs...))
}

func TestStops(t *testing.T) { // P904
	f := fun(".*.", 0, 0, 0)
	is(t, "Prologue", "true false false false", Prologue(f, 0), Prologue(f, 1), Prologue(f, -1), Prologue(api.Func{}, 0))
	is(t, "Stops", "true true false false false false", Stops(f, 0), Stops(f, 1), Stops(f, 2), Stops(f, 3), Stops(f, -1), Stops(api.Func{}, 0))
	f.Safe = append(f.Safe, true)
	is(t, "no place, though safe", "false false", Stops(f, 3), Stops(f, math.MinInt))
	f.Safe = nil
	is(t, "fewer truths", "true false", Stops(f, 0), Stops(f, 1))
	f.Safe = []bool{true}
	is(t, "one fewer", "true false", Stops(f, 0), Stops(f, 1))
}
