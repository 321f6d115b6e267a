package fair_test

import (
	"fmt"
	"math"
	"strings"
	"testing"

	"escapement/api"
	"escapement/asm"
	. "escapement/fair"
	"escapement/machine"
	"escapement/script"
	"escapement/valid"
)

func is(t *testing.T, what string, want string, got ...any) {
	t.Helper()
	if s := fmt.Sprintln(got...); s != want+"\n" {
		t.Errorf("%s: %s, not %s", what, s, want)
	}
}

func program(t *testing.T, lines ...string) api.Program {
	t.Helper()
	p, line, f := asm.Parse(strings.Join(lines, "\n") + "\n")
	if f != api.OK {
		t.Fatal("line", line, lines)
	}
	return valid.Mend(p)
}

func parked(s string) []bool {
	l := make([]bool, len(s))
	for i := range s {
		l[i] = s[i] == 'p'
	}
	return l
}

func TestWatch(t *testing.T) { // P3101
	is(t, "none", "true true true", New(0) == nil, New(1001) == nil, New(math.MinInt) == nil)
	w := New(1)
	is(t, "nothing was watched", "true 1", w.Fair(), w.Worst())
	for range 5 {
		w.Step(parked("."), api.Entry{})
	}
	is(t, "one, always picked", "true 1", w.Fair(), w.Worst())
	w = New(3)
	is(t, "two, not picked", "true true 3", w.Step(parked(".."), api.Entry{}), w.Step(parked(".."), api.Entry{Pick: 2}), w.Worst())
	is(t, "too long", "false false 4", w.Step(parked(".."), api.Entry{}), w.Fair(), w.Worst())
	is(t, "once and for all", "false", w.Step(parked(".."), api.Entry{Pick: 1}))
	w = New(3)
	for range 9 {
		w.Step(parked(".p"), api.Entry{})
	}
	is(t, "who is parked", "true 1", w.Fair(), w.Worst())
	w.Step(parked(".."), api.Entry{})
	w.Step(parked(".p"), api.Entry{})
	is(t, "counted anew", "true true 3", w.Step(parked(".."), api.Entry{}), w.Step(parked(".."), api.Entry{}), w.Worst())
	w = New(5)
	is(t, "Delay", "true 5 false 6", w.Step(parked("."), api.Entry{Delay: 5}), w.Worst(), w.Step(parked("."), api.Entry{Delay: 6}), w.Worst())
	is(t, "round", "true 3 false 64", New(3).Step(parked("."), api.Entry{Delay: 68}), worst(3, 68), New(63).Step(parked("."), api.Entry{Delay: -1}), worst(63, -1))
	w = New(9)
	is(t, "no machine", "false false 1", w.Step(nil, api.Entry{}), w.Fair(), w.Worst())
	w = New(2)
	w.Step(parked(".."), api.Entry{})
	w.Step(parked("."), api.Entry{})
	is(t, "who was not there", "true 2", w.Step(parked(".."), api.Entry{}), w.Worst())
	p := parked("..")
	w.Step(p, api.Entry{})
	is(t, "as it was", "[false false]", p)
	var none *Watch
	is(t, "nil", "false false 0", none.Step(parked("."), api.Entry{}), none.Fair(), none.Worst())
}

func worst(k, delay int) int {
	w := New(k)
	w.Step(parked("."), api.Entry{Delay: delay})
	return w.Worst()
}

func TestLeast(t *testing.T) { // P3102
	p := program(t, "func", "spawn r1 0", "jump 0")
	n, f := Least(p, api.Conf{Procs: 1, Gs: 1, Ms: 1}, script.Robin(50, 0))
	is(t, "one machine", "1 0", n, int(f))
	n, f = Least(p, api.Conf{Procs: 1, Gs: 1, Ms: 1}, script.Robin(50, 7))
	is(t, "its Delays", "7 0", n, int(f))
	n, f = Least(p, api.Conf{Procs: 1, Gs: 1, Ms: 1}, nil)
	is(t, "no step", "1 0", n, int(f))
	c := api.Conf{Procs: 3, Gs: 3, Ms: 3}
	l := make([]api.Entry, 300)
	n, f = Least(p, c, l)
	m, _ := machine.New(p, c)
	m.Run(l)
	if m.Live() < 2 || n < 250 || f != api.OK {
		t.Error("others were not picked", m.Live(), n, f)
	}
	n, f = Least(api.Program{}, c, l)
	k, g := Least(p, api.Conf{}, l)
	is(t, "faults", "0 1 0 2", n, int(f), k, int(g))
	n, _ = Least(p, c, make([]api.Entry, 1500))
	if n <= 1000 {
		t.Error("no limit", n)
	}
}

func TestBounds(t *testing.T) { // P3103
	p := program(t, "func", "nop", "nop", "exit")
	n, ok := Stop(p, 1)
	m, also := Stop(p, 1000)
	is(t, "Stop", "67 true 67000 true", n, ok, m, also)
	n, ok = Move(p, 2, 3, 4)
	m, also = Move(p, 1000, 1000, 1000)
	is(t, "Move", "388 true 9166000 true", n, ok, m, also)
	n, ok = Move(p, 1, 0, 0)
	is(t, "of none", "166 true", n, ok)
	for _, k := range []int{0, -1, 1001, math.MinInt, math.MaxInt} {
		n, ok := Stop(p, k)
		m, also := Move(p, k, 1, 1)
		is(t, fmt.Sprint("k ", k), "0 false 0 false", n, ok, m, also)
		n, ok = Move(p, 1, k-1, 1)
		m, also = Move(p, 1, 1, k-1)
		if k < 0 || k > 1001 {
			is(t, fmt.Sprint("gs, procs ", k-1), "0 false 0 false", n, ok, m, also)
		}
	}
	for _, p := range []api.Program{{}, program(t, "func", "nop", "jump 1"), program(t, "func", "nop")} {
		n, ok := Stop(p, 1)
		m, also := Move(p, 1, 1, 1)
		is(t, "none", "0 false 0 false", n, ok, m, also)
	}
}

func TestLaw(t *testing.T) { // P3104
	seed := uint64(5)
	below := func(n int) int {
		seed = seed*6364136223846793005 + 1442695040888963407
		return int(seed >> 33 % uint64(n))
	}
	for range 200 {
		ks := []int{1, 4, 9, 30, 1000}
		var watches []*Watch
		for _, k := range ks {
			watches = append(watches, New(k))
		}
		for range below(40) {
			l := make([]bool, 1+below(4))
			for i := range l {
				l[i] = below(3) == 0
			}
			e := api.Entry{Pick: below(9), Delay: below(6)}
			was := false
			for i, w := range watches {
				fair := w.Step(l, e)
				if was && !fair || fair != (w.Worst() <= ks[i]) {
					t.Fatal("fair for less, not for more")
				}
				was = fair
			}
		}
	}
}
