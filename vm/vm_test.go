package vm_test

import (
	"fmt"
	"math"
	"testing"

	"escapement/api"
	"escapement/asm"
	"escapement/isa"
	. "escapement/vm"
)

func is(t *testing.T, what string, want string, got ...any) {
	t.Helper()
	if s := fmt.Sprintln(got...); s != want+"\n" {
		t.Errorf("%s: %s, not %s", what, s, want)
	}
}

func program(t *testing.T, text string) api.Program {
	t.Helper()
	p, line, f := asm.Parse(text)
	if f != api.OK {
		t.Fatal("line", line, text)
	}
	return p
}

func step(p api.Program, t api.Thread, answer int64) string {
	u, n, ok := Step(p, t, answer)
	return fmt.Sprint(u.Func, u.PC, u.Regs, u.Stack, u.Done, " ", n, ok)
}

func TestNewCloneSame(t *testing.T) { // P1101
	is(t, "New", "{3 0 [-5 0 0 0 0 0 0 0] [] false}", New(3, -5))
	a := api.Thread{Func: 1, PC: 2, Stack: []api.Frame{{Func: 3, PC: 4}}}
	b := Clone(a)
	is(t, "alike", "true true", Same(a, b), Same(New(0, 0), api.Thread{Stack: []api.Frame{}}))
	b.Stack[0].PC = 5
	is(t, "shares nothing", "4 false", a.Stack[0].PC, Same(a, b))
	for _, u := range []api.Thread{{PC: 2, Stack: a.Stack}, {Func: 1, Stack: a.Stack}, {Func: 1, PC: 2}, {Func: 1, PC: 2, Stack: a.Stack, Done: true}, {Func: 1, PC: 2, Stack: a.Stack, Regs: [8]int64{7: 1}}} {
		is(t, "unlike", "false", Same(a, u))
	}
}

func TestFits(t *testing.T) { // P1101
	p := program(t, "func\nnop\nexit\nfunc\nret\n")
	frames := func(n int) []api.Frame { return make([]api.Frame, n) }
	for _, c := range []struct {
		t    api.Thread
		want bool
	}{
		{api.Thread{}, true}, {api.Thread{PC: 1}, true}, {api.Thread{PC: 2}, false}, {api.Thread{Func: 1}, true}, {api.Thread{Func: 1, PC: 1}, false}, {api.Thread{Func: 2}, false}, {api.Thread{Func: -1}, false}, {api.Thread{PC: -1}, false}, {api.Thread{PC: math.MaxInt}, false},
		{api.Thread{Stack: frames(16)}, true}, {api.Thread{Stack: frames(17)}, false}, {api.Thread{Stack: []api.Frame{{}, {PC: 2}}}, false}, {api.Thread{Stack: []api.Frame{{Func: 5}}}, false},
		{api.Thread{Func: 77, Done: true, Stack: frames(40)}, true},
	} {
		is(t, fmt.Sprint("Fits ", c.t), fmt.Sprint(c.want), Fits(p, c.t))
		if !c.want {
			i, ok := At(p, c.t)
			is(t, "of At", "{0 0 0 0 0} false", i, ok)
			is(t, "of Step", "0 0 [0 0 0 0 0 0 0 0] [] false 0 false", step(p, c.t, 5))
		}
	}
	open := program(t, "func\nnop\n")
	i, ok := At(open, api.Thread{})
	is(t, "may not run", "false false {0 0 0 0 0} false", Fits(open, api.Thread{}), Fits(open, api.Thread{Done: true}), i, ok)
	is(t, "nor step", "0 0 [0 0 0 0 0 0 0 0] [] false 0 false", step(open, api.Thread{PC: 0, Done: true}, 5))
}

func TestAt(t *testing.T) { // P1102
	p := program(t, "func\nconst r3 9\nexit\n")
	i, ok := At(p, api.Thread{})
	is(t, "first", "{1 3 0 0 9} true", i, ok)
	i, ok = At(p, api.Thread{Done: true})
	is(t, "done", "{0 0 0 0 0} false", i, ok)
}

func TestStepNumbers(t *testing.T) { // P1103
	regs := [8]int64{1, 2, 3, math.MaxInt64, math.MinInt64, -1}
	for line, want := range map[string]string{
		"const r7 -4":   "[1 2 3 9223372036854775807 -9223372036854775808 -1 0 -4]",
		"add r7 r1 r2":  "[1 2 3 9223372036854775807 -9223372036854775808 -1 0 5]",
		"add r7 r3 r0":  "[1 2 3 9223372036854775807 -9223372036854775808 -1 0 -9223372036854775808]",
		"sub r7 r1 r2":  "[1 2 3 9223372036854775807 -9223372036854775808 -1 0 -1]",
		"sub r7 r4 r0":  "[1 2 3 9223372036854775807 -9223372036854775808 -1 0 9223372036854775807]",
		"mul r7 r1 r2":  "[1 2 3 9223372036854775807 -9223372036854775808 -1 0 6]",
		"mul r7 r4 r5":  "[1 2 3 9223372036854775807 -9223372036854775808 -1 0 -9223372036854775808]",
		"less r7 r1 r2": "[1 2 3 9223372036854775807 -9223372036854775808 -1 0 1]",
		"less r7 r2 r1": "[1 2 3 9223372036854775807 -9223372036854775808 -1 0 0]",
		"less r0 r1 r1": "[0 2 3 9223372036854775807 -9223372036854775808 -1 0 0]",
		"spawn r7 0":    "[1 2 3 9223372036854775807 -9223372036854775808 -1 0 77]",
		"ready r7":      "[1 2 3 9223372036854775807 -9223372036854775808 -1 0 77]",
		"resume r7":     "[1 2 3 9223372036854775807 -9223372036854775808 -1 0 77]",
		"resize r7":     "[1 2 3 9223372036854775807 -9223372036854775808 -1 0 77]",
		"self r7":       "[1 2 3 9223372036854775807 -9223372036854775808 -1 0 77]",
		"* suspend r7":  "[1 2 3 9223372036854775807 -9223372036854775808 -1 0 77]",
		"nop":           "[1 2 3 9223372036854775807 -9223372036854775808 -1 0 0]",
		"* yield":       "[1 2 3 9223372036854775807 -9223372036854775808 -1 0 0]",
		"* block":       "[1 2 3 9223372036854775807 -9223372036854775808 -1 0 0]",
		"* sys r0":      "[1 2 3 9223372036854775807 -9223372036854775808 -1 0 0]",
		"* stop":        "[1 2 3 9223372036854775807 -9223372036854775808 -1 0 0]",
		"start":         "[1 2 3 9223372036854775807 -9223372036854775808 -1 0 0]",
		"* barrier":     "[1 2 3 9223372036854775807 -9223372036854775808 -1 0 0]",
		"emit r2":       "[1 2 3 9223372036854775807 -9223372036854775808 -1 0 0]",
		"if r6 0":       "[1 2 3 9223372036854775807 -9223372036854775808 -1 0 0]",
	} {
		p := program(t, "func\nnop\n"+line+"\n* exit\n")
		number := 0
		if i := p.Funcs[0].Code[1]; isa.Asks(i.Op) {
			number = 77
		} else if i.Op == api.OpEmit {
			number = 3
		}
		is(t, line, fmt.Sprintf("0 2 %s [] false %d true", want, number), step(p, api.Thread{PC: 1, Regs: regs}, 77))
	}
}

func TestStepPlaces(t *testing.T) { // P1103
	p := program(t, "func\nif r0 3\njump 0\ncall 1\nexit\nfunc\nret\n")
	zero := "[0 0 0 0 0 0 0 0]"
	is(t, "if not", "0 1 "+zero+" [] false 0 true", step(p, api.Thread{}, 1))
	is(t, "if", "0 3 [-1 0 0 0 0 0 0 0] [] false 0 true", step(p, New(0, -1), 1))
	is(t, "jump", "0 0 "+zero+" [] false 0 true", step(p, api.Thread{PC: 1}, 1))
	is(t, "call", "1 0 "+zero+" [{0 3}] false 0 true", step(p, api.Thread{PC: 2}, 1))
	u, _, _ := Step(p, api.Thread{Func: 1, Stack: []api.Frame{{PC: 2}, {PC: 3}}}, 1)
	is(t, "ret", "{0 3 "+zero+" [{0 2}] false}", u)
	u, _, _ = Step(p, api.Thread{Func: 1, Stack: []api.Frame{{PC: 2}}}, 1)
	is(t, "ret to the only one", "{0 2 "+zero+" [] false}", u)
	done := "0 0 " + zero + " [] true 0 "
	is(t, "the last ret", done+"true", step(p, api.Thread{Func: 1, Regs: [8]int64{5}}, 1))
	is(t, "exit", done+"true", step(p, api.Thread{PC: 3, Regs: [8]int64{5}, Stack: []api.Frame{{}}}, 1))
	is(t, "done", done+"false", step(p, api.Thread{Done: true}, 1))
	is(t, "done, as it is", "9 0 "+zero+" [] true 0 false", step(p, api.Thread{Func: 9, Done: true}, 1))
	full := api.Thread{PC: 2, Stack: make([]api.Frame, 15, 40)}
	is(t, "the last frame", "16", fmt.Sprint(len(mustStep(p, full).Stack)))
	full.Stack = full.Stack[:16]
	is(t, "its room stays", "{0 0}", full.Stack[15])
	is(t, "one more", done+"true", step(p, full, 1))
}

func mustStep(p api.Program, t api.Thread) api.Thread {
	u, _, _ := Step(p, t, 0)
	return u
}

func TestExample(t *testing.T) { // P1103
	p := program(t, "func\nconst r0 5\nemit r0\nexit\n")
	is(t, "tells 5", "0 2 [5 0 0 0 0 0 0 0] [] false 5 true", step(p, mustStep(p, New(0, 0)), 0))
}

func TestLaw(t *testing.T) { // P1104
	p := program(t, "func\nself r1\ncall 1\nif r1 0\ncall 0\nexit\nfunc\nsub r1 r1 r0\nif r2 0\nspawn r2 1\nret\n")
	u := New(0, 1)
	for n := range 500 {
		if !Fits(p, u) {
			t.Fatal("does not fit", n, u)
		}
		before := Clone(u)
		v, _, _ := Step(p, u, int64(n%3))
		if !Same(before, u) {
			t.Fatal("changed")
		}
		if u = v; u.Done {
			u = New(n%2, int64(n))
		}
	}
}
