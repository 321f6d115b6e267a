package alone_test

import (
	"fmt"
	"slices"
	"testing"

	. "escapement/alone"
	"escapement/api"
	"escapement/asm"
)

func is(t *testing.T, what string, want string, got ...any) {
	t.Helper()
	if s := fmt.Sprintln(got...); s != want+"\n" {
		t.Errorf("%s: %s, not %s", what, s, want)
	}
}

func program(t *testing.T, text string) api.Program {
	t.Helper()
	p, line, f := asm.Parse(text)
	if f != api.OK {
		t.Fatal("line", line, text)
	}
	return p
}

func TestRun(t *testing.T) { // P1201
	p := program(t, "func\nemit r0\n* block\n* emit r0\nexit\n")
	r, f := Run(p, 100)
	is(t, "example", "[0] 2 true 2 false 0", r.Emits, r.Steps, r.Stuck, r.Thread.PC, r.Thread.Done, f)
	r, f = Run(p, 1)
	is(t, "one", "[0] 1 false 1 0", r.Emits, r.Steps, r.Stuck, r.Thread.PC, f)
	r, f = Run(p, 0)
	is(t, "none", "[] 0 false {0 0 [0 0 0 0 0 0 0 0] [] false} 0", r.Emits, r.Steps, r.Stuck, r.Thread, f)
	for _, steps := range []int{-1, api.MaxSteps + 1} {
		r, f = Run(p, steps)
		is(t, fmt.Sprint("steps ", steps), "{[] 0 {0 0 [0 0 0 0 0 0 0 0] [] false} false} 1", r, f)
	}
	r, f = Run(program(t, "func\nnop\n"), 5)
	is(t, "may not run", "0 1", r.Steps, f)
	r, f = Run(program(t, "func\njump 0\n"), api.MaxSteps)
	is(t, "most", "65536 0", r.Steps, f)
	r, f = Run(program(t, "func\nconst r3 2\nexit\n"), 9)
	is(t, "done ahead", "2 true false 0", r.Steps, r.Thread.Done, r.Stuck, f)
}

func TestAnswers(t *testing.T) { // P1201
	for lines, want := range map[string]string{
		"spawn r1 0":                                 "[-1]",
		"self r1":                                    "[1]",
		"const r1 1\nready r1":                       "[1]",
		"const r1 2\nready r1":                       "[0]",
		"ready r1":                                   "[0]",
		"const r1 1\n* suspend r1":                   "[-1]",
		"const r1 2\n* suspend r1":                   "[-1]",
		"const r1 1\nresume r1":                      "[0]",
		"const r1 1\nresize r1":                      "[0]",
		"* stop\n* const r1 1\nresize r1":            "[1]",
		"* stop\n* const r1 256\nresize r1":          "[1]",
		"* stop\n* const r1 257\nresize r1":          "[0]",
		"* stop\n* const r1 0\nresize r1":            "[0]",
		"* stop\n* start\nconst r1 1\nresize r1":     "[0]",
		"* stop\n* barrier\n* const r1 4\nresize r1": "[1]",
		"* barrier\n* yield\n* sys r1\n* nop":        "[0]",
	} {
		p := program(t, "func\n"+lines+"\n* emit r1\nexit\n")
		is(t, lines, want, Emits(p, 100))
	}
}

func TestBlock(t *testing.T) { // P1201
	for lines, want := range map[string]string{
		"self r1\nready r1\nready r1\n* block\n* emit r1\n* block\n* emit r1":                          "[1] true",
		"* stop\n* block\n* emit r1\n* block\n* emit r1":                                               "[0 0] false",
		"self r1\nready r1\n* stop\n* block\n* start\nemit r1\n* block\n* emit r1\n* block\n* emit r1": "[1 1] true",
		"* stop\n* start\n* block\n* emit r1":                                                          "[] true",
	} {
		r, _ := Run(program(t, "func\n"+lines+"\nexit\n"), 100)
		is(t, lines, want, r.Emits, r.Stuck)
	}
}

func TestEmits(t *testing.T) { // P1202
	p := program(t, "func\nemit r0\nconst r0 4\nemit r0\nexit\n")
	is(t, "two", "[0 4] [0] []", Emits(p, 9), Emits(p, 2), Emits(p, -1))
}

func TestLaw(t *testing.T) { // P1203
	p := program(t, "func\nself r1\nadd r2 r2 r1\nemit r2\nready r1\n* block\n* const r3 9\nless r3 r2 r3\nif r3 1\n* block\n* exit\n")
	all := Emits(p, 1000)
	is(t, "all", "[1 2 3 4 5 6 7 8 9]", all)
	for steps := range 80 {
		l := Emits(p, steps)
		if !slices.Equal(l, all[:len(l)]) {
			t.Fatal(steps, l)
		}
	}
}
