package isa_test

import (
	"fmt"
	"math"
	"strings"
	"testing"

	"escapement/api"
	. "escapement/isa"
)

func is(t *testing.T, what string, got, want any) {
	t.Helper()
	if fmt.Sprint(got) != fmt.Sprint(want) {
		t.Errorf("%s: %v, not %v", what, got, want)
	}
}

const names = "nop const add sub mul less jump if call ret spawn yield block ready exit emit sys stop start barrier suspend resume resize self"

func TestNames(t *testing.T) { // P601
	for op, name := range strings.Fields(names) {
		is(t, name, Name(op), name)
		got, ok := Op(name)
		is(t, name, fmt.Sprint(got, ok), fmt.Sprint(op, true))
	}
	for _, op := range []int{-1, 24, math.MinInt, math.MaxInt} {
		is(t, fmt.Sprint("no op ", op), Name(op), "")
	}
	for _, name := range []string{"", "Nop", "nop ", "jumps", "*"} {
		op, ok := Op(name)
		is(t, "no name "+name, fmt.Sprint(op, ok), "0 false")
	}
	l := All()
	is(t, "All", l, "[0 1 2 3 4 5 6 7 8 9 10 11 12 13 14 15 16 17 18 19 20 21 22 23]")
	l[3] = 9
	is(t, "new memory", All()[3], 3)
}

func TestWhatOpsHave(t *testing.T) { // P602
	var regs, targets, numbers, waits, ends, asks []int
	for _, op := range All() {
		regs, targets = append(regs, Regs(op)), append(targets, Target(op))
		for _, c := range []struct {
			l  *[]int
			is bool
		}{{&numbers, Number(op)}, {&waits, Waits(op)}, {&ends, Ends(op)}, {&asks, Asks(op)}} {
			if c.is {
				*c.l = append(*c.l, op)
			}
		}
	}
	is(t, "Regs", regs, "[0 1 3 3 3 3 0 1 0 0 1 0 0 1 0 1 1 0 0 0 1 1 1 1]")
	is(t, "Target", targets, "[0 0 0 0 0 0 1 1 2 0 2 0 0 0 0 0 0 0 0 0 0 0 0 0]")
	is(t, "Number", numbers, "[1]")
	is(t, "Waits", waits, "[11 12 16 17 19 20]")
	is(t, "Ends", ends, "[6 9 14]")
	is(t, "Asks", asks, "[10 13 20 21 22 23]")
	for _, op := range []int{-1, 24, math.MinInt, math.MaxInt} {
		is(t, "no op", fmt.Sprint(Regs(op), Target(op), Number(op), Waits(op), Ends(op), Asks(op)), "0 0 false false false false")
	}
}

func TestCheck(t *testing.T) { // P603
	for _, c := range []struct {
		i    api.Instr
		want api.Fault
	}{
		{api.Instr{Op: api.OpJump, N: 3}, api.Range},
		{api.Instr{Op: api.OpJump, N: 2}, api.OK},
		{api.Instr{Op: api.OpJump}, api.OK},
		{api.Instr{Op: api.OpCall}, api.OK},
		{api.Instr{Op: api.OpJump, N: -1}, api.Range},
		{api.Instr{Op: api.OpJump, A: 1, N: 3}, api.Bad},
		{api.Instr{Op: api.OpJump, N: math.MaxInt64}, api.Range},
		{api.Instr{Op: -1}, api.BadArg},
		{api.Instr{Op: 24, A: 9, N: 9}, api.BadArg},
		{api.Instr{Op: api.OpConst, A: 7, N: math.MinInt64}, api.OK},
		{api.Instr{Op: api.OpConst, A: 8}, api.Range},
		{api.Instr{Op: api.OpConst, A: -1, B: 1}, api.Range},
		{api.Instr{Op: api.OpConst, B: 1}, api.Bad},
		{api.Instr{Op: api.OpConst, C: -1}, api.Bad},
		{api.Instr{Op: api.OpAdd, A: 7, B: 7, C: 7}, api.OK},
		{api.Instr{Op: api.OpAdd, C: 8, N: 1}, api.Range},
		{api.Instr{Op: api.OpAdd, N: 1}, api.Bad},
		{api.Instr{Op: api.OpNop}, api.OK},
		{api.Instr{Op: api.OpNop, A: 8}, api.Bad},
		{api.Instr{Op: api.OpNop, N: 5}, api.Bad},
		{api.Instr{Op: api.OpCall, N: 1}, api.OK},
		{api.Instr{Op: api.OpCall, N: 2}, api.Range},
		{api.Instr{Op: api.OpSpawn, A: 7, N: 1}, api.OK},
		{api.Instr{Op: api.OpSpawn, A: 7, N: 2}, api.Range},
		{api.Instr{Op: api.OpSpawn, A: 8, N: 2}, api.Range},
		{api.Instr{Op: api.OpIf, A: 1, N: 3}, api.Range},
		{api.Instr{Op: api.OpIf, B: 1, N: 3}, api.Bad},
		{api.Instr{Op: api.OpSelf, A: 3}, api.OK},
		{api.Instr{Op: api.OpSelf, A: 3, N: 1}, api.Bad},
	} {
		is(t, fmt.Sprint(c.i), Check(c.i, 3, 2), c.want)
	}
	is(t, "of no places", Check(api.Instr{Op: api.OpJump}, 0, 0), api.Range)
	is(t, "of fewer", Check(api.Instr{Op: api.OpCall}, -5, -5), api.Range)
}
