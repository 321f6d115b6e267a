package shrink_test

import (
	"fmt"
	"math"
	"testing"

	"escapement/api"
	"escapement/gen"
	"escapement/script"
	. "escapement/shrink"
)

func is(t *testing.T, what string, want string, got ...any) {
	t.Helper()
	if s := fmt.Sprintln(got...); s != want+"\n" {
		t.Errorf("%s: %s, not %s", what, s, want)
	}
}

func picks(l ...int) []api.Entry {
	var all []api.Entry
	for _, p := range l {
		all = append(all, api.Entry{Pick: p})
	}
	return all
}

var conf = api.Conf{Procs: 3, Gs: 3, Ms: 3}

func guard(n int) api.Program {
	p, _ := gen.Guard(n)
	return p
}

func TestHoldsPrefix(t *testing.T) { // P4101
	one := api.Conf{Procs: 1, Gs: 1, Ms: 1}
	l := make([]api.Entry, 100)
	n := Prefix(guard(1), one, l)
	is(t, "Prefix", "true 1 0", n > 0, Holds(guard(1), one, l[:n]), Holds(guard(1), one, l[:n-1]))
	is(t, "at the end", "0 0", Holds(guard(1), one, l), Holds(guard(1), one, nil))
	is(t, "none", "-1 -1", Prefix(guard(1), one, l[:n-1]), Prefix(guard(1), one, nil))
	is(t, "faults", "0 -1 0 -1", Holds(api.Program{}, one, l), Prefix(api.Program{}, one, l), Holds(guard(1), api.Conf{}, l), Prefix(guard(1), api.Conf{}, l))
}

func TestCut(t *testing.T) { // P4102, P4104
	rounds, _ := gen.Rounds(2)
	cuts := 0
	for n := range 30 {
		p := guard(5)
		if n%2 == 0 {
			p = rounds
		}
		l := script.Robin(40+4*n, n%4)
		if at := Prefix(p, conf, l); at > 0 {
			l = l[:at]
		}
		holder := Holds(p, conf, l)
		cut, f := Cut(p, conf, l)
		if holder == 0 {
			is(t, "nobody holds it", "true 8", cut == nil, int(f))
			continue
		}
		cuts++
		if f != api.OK || !Sub(cut, l) || Holds(p, conf, cut) != holder {
			t.Fatal(n, f, cut)
		}
		for i := range cut {
			if Holds(p, conf, Without(cut, i)) == holder {
				t.Fatal("one more can be left out", n, i, cut)
			}
		}
		again, f := Cut(p, conf, cut)
		if f != api.OK || len(again) > len(cut) {
			t.Fatal("cut again", f, again)
		}
	}
	if cuts < 20 {
		t.Error("too few", cuts)
	}
	long := make([]api.Entry, 201)
	cut, f := Cut(guard(1), conf, long)
	is(t, "too many", "true 2", cut == nil, int(f))
	cut, f = Cut(api.Program{}, conf, long)
	is(t, "faults", "true 1", cut == nil, int(f))
	cut, f = Cut(guard(1), api.Conf{}, long)
	is(t, "faults", "true 2", cut == nil, int(f))
	cut, f = Cut(guard(1), conf, nil)
	is(t, "none", "true 8", cut == nil, int(f))
	held, _ := gen.Rounds(1)
	held.Funcs[0].Code[2] = api.Instr{Op: api.OpJump, N: 2}
	cut, f = Cut(held, conf, script.Robin(200, 0))
	again, _ := Cut(held, conf, cut)
	again[0].Draw = 12345
	is(t, "new memory", "false", cut[0] == again[0])
	is(t, "most", "0 1 true", int(f), Holds(held, conf, cut), len(cut) < 60)
}

func TestWithoutSub(t *testing.T) { // P4103
	l := picks(1, 2, 3)
	is(t, "example", "[{1 0 0} {3 0 0}] true", Without(l, 1), Sub(Without(l, 1), l))
	is(t, "none there", "[{1 0 0} {2 0 0} {3 0 0}] 3 3 3", Without(l, 3), len(Without(l, -1)), len(Without(l, math.MinInt)), len(Without(l, math.MaxInt)))
	is(t, "ends", "[{2 0 0} {3 0 0}] [{1 0 0} {2 0 0}] [] []", Without(l, 0), Without(l, 2), Without(l[:1], 0), Without(nil, 0))
	Without(l, 3)[0].Pick = 9
	Without(l, 1)[0].Pick = 9
	is(t, "as it was", "[{1 0 0} {2 0 0} {3 0 0}]", l)
	is(t, "Sub", "true true true true false false false false", Sub(nil, nil), Sub(nil, l), Sub(l, l), Sub(picks(1, 3), l), Sub(picks(3, 1), l), Sub(picks(1, 1), l), Sub(l, picks(1, 3)), Sub(picks(4), l))
	is(t, "all of an entry", "false true", Sub([]api.Entry{{Pick: 1, Draw: 1}}, l), Sub(picks(1, 1), picks(1, 2, 1)))
}
