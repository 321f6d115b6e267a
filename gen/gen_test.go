package gen_test

import (
	"fmt"
	"math"
	"testing"

	"escapement/api"
	"escapement/asm"
	"escapement/code"
	. "escapement/gen"
	"escapement/isa"
	"escapement/valid"
)

func is(t *testing.T, what string, want string, got ...any) {
	t.Helper()
	if s := fmt.Sprintln(got...); s != want+"\n" {
		t.Errorf("%s: %s, not %s", what, s, want)
	}
}

func text(p api.Program, f api.Fault) string {
	s, _ := asm.Print(p)
	return fmt.Sprint(s, int(f))
}

func TestDice(t *testing.T) { // P3301
	d := New(0)
	is(t, "from 0", "167951807 218396424", d.Next(), d.Next())
	n := uint64(math.MaxUint64)
	d = New(n)
	for range 100 {
		n = n*6364136223846793005 + 1442695040888963407
		is(t, "Next", fmt.Sprint(n>>33), d.Next())
	}
	a, b := New(9), New(9)
	is(t, "Below", fmt.Sprint(a.Next()%7, " ", a.Next()%1000), b.Below(7), b.Below(1000))
	is(t, "no Next", fmt.Sprint("0 0 0 ", a.Next()), b.Below(0), b.Below(-1), b.Below(math.MinInt), b.Next())
	is(t, "of one, a Next", fmt.Sprint("0 ", second(a)), b.Below(1), b.Next())
	is(t, "greatest", fmt.Sprint(a.Next()), b.Below(math.MaxInt))
	var none *Dice
	is(t, "nil", "0 0", none.Next(), none.Below(5))
}

// second: what is thrown behind one more.
func second(d *Dice) uint64 {
	d.Next()
	return d.Next()
}

// random: as the chapter's words say, place by place.
func random(seed uint64, funcs, size int) api.Program {
	d := New(seed)
	p := api.Program{Funcs: make([]api.Func, funcs)}
	for fn := range funcs {
		for range size {
			i := api.Instr{Op: d.Below(24)}
			if isa.Regs(i.Op) > 0 {
				i.A = d.Below(8)
			}
			if isa.Regs(i.Op) > 1 {
				i.B = d.Below(8)
				i.C = d.Below(8)
			}
			switch i.Op {
			case api.OpJump, api.OpIf:
				i.N = int64(d.Below(size))
			case api.OpCall, api.OpSpawn:
				i.N = int64(d.Below(funcs))
			case api.OpConst:
				i.N = int64(d.Below(16))
			}
			p.Funcs[fn].Code = append(p.Funcs[fn].Code, i)
			p.Funcs[fn].Safe = append(p.Funcs[fn].Safe, d.Below(2) == 1)
		}
		p.Funcs[fn].Code[size-1] = api.Instr{Op: api.OpRet}
	}
	return valid.Mend(p)
}

func TestRandom(t *testing.T) { // P3302
	for _, c := range [][2]int{{0, 1}, {17, 1}, {1, 0}, {1, 65}, {-1, 5}, {math.MaxInt, 1}, {1, math.MinInt}} {
		is(t, fmt.Sprint("no ", c), "1", text(Random(1, c[0], c[1])))
	}
	for seed := range uint64(60) {
		funcs, size := 1+int(seed)%16, 1+int(seed*7)%64
		p, f := Random(seed<<57+seed, funcs, size)
		if want := random(seed<<57+seed, funcs, size); f != api.OK || !code.Same(p, want) {
			t.Fatal(seed, text(p, f), text(want, 0))
		}
	}
	is(t, "one place", "func\n* ret\n0", text(Random(3, 1, 1)))
}

func TestRoundsChainGuard(t *testing.T) { // P3303
	is(t, "Rounds", "func\nspawn r0 1\nspawn r0 1\n* stop\n* start\nexit\nfunc\nnop\nnop\n* jump 1\n0", text(Rounds(2)))
	is(t, "Chain", "func\nspawn r0 1\nexit\nfunc\nself r1\nemit r1\n* yield\n* exit\n0", text(Chain(1)))
	is(t, "Guard", "func\nconst r0 1\n* stop\n* emit r0\nstart\n* stop\n* emit r0\nstart\nexit\n0", text(Guard(2)))
	for _, n := range []int{0, -1, 62, 64, math.MaxInt, math.MinInt} {
		is(t, fmt.Sprint("no ", n), "1 1 1", text(Rounds(n)), text(Chain(n)), text(Guard(n)))
	}
	p, f := Rounds(61)
	q, g := Chain(61)
	is(t, "most", "64 0 62 0 1", len(p.Funcs[0].Code), int(f), len(q.Funcs[0].Code), int(g), text(Guard(61)))
	p, f = Guard(20)
	is(t, "most of Guard", "62 0 1", len(p.Funcs[0].Code), int(f), text(Guard(21)))
}

func TestLaw(t *testing.T) { // P3304
	for n := range 61 {
		rounds, _ := Rounds(n + 1)
		chain, _ := Chain(n + 1)
		guard, _ := Guard(n%20 + 1)
		thrown, _ := Random(uint64(n), 1+n%16, 1+n)
		for _, p := range []api.Program{rounds, chain, guard, thrown} {
			if fn, pc, f := valid.Check(p); f != api.OK {
				t.Fatal(n, fn, pc, f)
			}
		}
	}
}
