package code_test

import (
	"bytes"
	"fmt"
	"math"
	"testing"

	"escapement/api"
	. "escapement/code"
	"escapement/isa"
)

func is(t *testing.T, what string, want string, got ...any) {
	t.Helper()
	if s := fmt.Sprintln(got...); s != want+"\n" {
		t.Errorf("%s: %s, not %s", what, s, want)
	}
}

func one(safe bool, l ...api.Instr) api.Program {
	return api.Program{Funcs: []api.Func{{Code: l, Safe: append([]bool{safe}, make([]bool, len(l)-1)...)}}}
}

func many(funcs, places int) api.Program {
	var p api.Program
	for range funcs {
		p.Funcs = append(p.Funcs, api.Func{Code: make([]api.Instr, places), Safe: make([]bool, places)})
	}
	return p
}

func TestFits(t *testing.T) { // P701
	for _, c := range []struct {
		p    api.Program
		want bool
	}{
		{api.Program{}, true}, {many(16, 64), true}, {many(17, 1), false}, {many(1, 65), false}, {many(1, 0), true},
		{one(true, api.Instr{Op: 24}), false}, {one(true, api.Instr{Op: -1}), false},
		{one(true, api.Instr{A: 255, B: 255, C: 255}), true}, {one(true, api.Instr{A: 256}), false}, {one(true, api.Instr{B: -1}), false}, {one(true, api.Instr{C: math.MaxInt}), false},
		{api.Program{Funcs: []api.Func{{Code: make([]api.Instr, 2), Safe: make([]bool, 1)}}}, false},
		{one(true, api.Instr{N: 5}), true},
	} {
		if Fits(c.p) != c.want {
			t.Errorf("Fits of %v: not %v", c.p, c.want)
		}
		_, f := Print(c.p)
		if !c.want && f != api.BadArg {
			t.Errorf("Print of %v: %v", c.p, f)
		}
	}
}

func TestPrint(t *testing.T) { // P701
	b, f := Print(one(false, api.Instr{Op: api.OpExit}))
	is(t, "example", "[1 1 14 0 0 0 0 1 0] 0", b, f)
	b, f = Print(api.Program{})
	is(t, "none", "[0] 0", b, f)
	b, f = Print(one(true, api.Instr{Op: api.OpConst, A: 7, N: -2}))
	is(t, "number", "[1 1 1 7 0 0 255 255 255 255 255 255 255 254 0 1 1] 0", b, f)
	b, f = Print(one(true, api.Instr{Op: api.OpJump, N: 258}))
	is(t, "place", "[1 1 6 0 0 0 0 0 0 0 0 0 1 2 0 1 1] 0", b, f)
	b, f = Print(one(true, api.Instr{Op: api.OpNop, N: 1}))
	is(t, "an N that it has not", "true 1", b == nil, f)
}

func TestParse(t *testing.T) { // P702
	for _, c := range []struct {
		b  []byte
		at int
	}{
		{nil, 0}, {[]byte{17}, 0}, {[]byte{1}, 1}, {[]byte{1, 65}, 1}, {[]byte{0, 0}, 1}, {[]byte{1, 1, 24}, 2}, {[]byte{1, 1, 14, 0, 0}, 5},
		{[]byte{1, 1, 14, 0, 0, 0}, 6}, {[]byte{1, 1, 14, 0, 0, 0, 0, 1}, 8}, {[]byte{1, 1, 14, 0, 0, 0, 9, 9}, 8}, {[]byte{1, 1, 14, 0, 0, 0, 0, 2, 0}, 6},
		{[]byte{1, 1, 14, 0, 0, 0, 0, 1, 2}, 6}, {[]byte{1, 1, 14, 0, 0, 0, 0, 1, 1, 0}, 9}, {[]byte{1, 1, 6, 0, 0, 0, 0, 0, 0, 0, 0, 0, 0}, 13},
		{[]byte{2, 1, 14, 0, 0, 0, 0, 1, 1, 70}, 9}, {[]byte{2, 1, 14, 0, 0, 0, 0, 1, 1}, 9},
	} {
		p, at, f := Parse(c.b)
		is(t, fmt.Sprint("no program ", c.b), fmt.Sprint("true ", c.at, " 4"), p.Funcs == nil, at, f)
	}
	p, at, f := Parse([]byte{1, 1, 14, 9, 255, 3, 0, 1, 1})
	is(t, "read", "{[{[{14 9 255 3 0}] [true]}]} 0 0", p, at, f)
	p, at, f = Parse([]byte{1, 0, 0, 0})
	is(t, "a function of no places", "{[{[] []}]} 0 0", p, at, f)
}

func TestSameClone(t *testing.T) { // P703
	p := one(true, api.Instr{Op: 1, N: 7}, api.Instr{Op: 14})
	q := Clone(p)
	is(t, "clone", "true true", Same(p, q), Same(api.Program{}, api.Program{Funcs: []api.Func{}}))
	for _, change := range []func(*api.Program){
		func(p *api.Program) { p.Funcs[0].Code[0].N++ }, func(p *api.Program) { p.Funcs[0].Code[1].C++ }, func(p *api.Program) { p.Funcs[0].Safe[1] = true },
		func(p *api.Program) { p.Funcs = append(p.Funcs, api.Func{}) }, func(p *api.Program) { p.Funcs[0].Safe = p.Funcs[0].Safe[:1] }, func(p *api.Program) { p.Funcs[0].Code = p.Funcs[0].Code[:1] },
	} {
		q := Clone(p)
		change(&q)
		is(t, "unlike", "false false", Same(p, q), Same(q, p))
	}
	is(t, "shares nothing", "{[{[{1 0 0 0 7} {14 0 0 0 0}] [true false]}]}", p)
}

func TestLaw(t *testing.T) { // P704
	seed := uint64(1)
	below := func(n int) int {
		seed = seed*6364136223846793005 + 1442695040888963407
		return int(seed >> 33 % uint64(n))
	}
	for range 300 {
		p := many(below(17), below(65))
		for _, f := range p.Funcs {
			for pc := range f.Code {
				i := api.Instr{Op: below(24), A: below(256), B: below(256), C: below(256)}
				if isa.Target(i.Op) != isa.NoTarget || isa.Number(i.Op) {
					i.N = int64(below(1<<30)) << below(40) * int64(1-2*below(2))
				}
				f.Code[pc], f.Safe[pc] = i, below(2) == 1
			}
		}
		b, f := Print(p)
		q, at, g := Parse(b)
		again, _ := Print(q)
		if f != api.OK || g != api.OK || at != 0 || !Same(p, q) || !bytes.Equal(b, again) {
			t.Fatal("there and back", f, g, at)
		}
		if len(b) > 1 {
			cut := below(len(b))
			if _, at, g := Parse(b[:cut]); g != api.Form || at > cut {
				t.Fatal("cut", cut, at, g)
			}
		}
	}
}
