package stress_test

import (
	"fmt"
	"math"
	"testing"

	"escapement/api"
	"escapement/audit"
	"escapement/event"
	"escapement/gen"
	"escapement/machine"
	"escapement/pct"
	. "escapement/stress"
)

func is(t *testing.T, what string, want string, got ...any) {
	t.Helper()
	if s := fmt.Sprintln(got...); s != want+"\n" {
		t.Errorf("%s: %s, not %s", what, s, want)
	}
}

var exit = api.Program{Funcs: []api.Func{{Code: []api.Instr{{Op: api.OpExit}}, Safe: []bool{false}}}}

func rounds() api.Program {
	p, _ := gen.Rounds(3)
	return p
}

func both(p api.Program, c api.Conf, plan pct.Plan, runs int) string {
	r, f := Run(p, c, plan, runs)
	n, g := Unlike(p, c, plan, runs)
	return fmt.Sprint(r, int(f), " ", n, int(g))
}

var conf = api.Conf{Procs: 4, Gs: 4, Ms: 4}

func TestOne(t *testing.T) { // P4401
	plan := pct.Plan{Seed: 5, Machines: -77, Steps: 400, Changes: 9, Every: 3}
	for seed := range uint64(10) {
		plan.Seed = seed
		l, said, f := One(rounds(), conf, plan)
		right := plan
		right.Machines = conf.Ms
		script, _ := pct.Script(right)
		m, _ := machine.New(rounds(), conf)
		want := m.Run(script)
		is(t, "One", "true true 0", event.Same(l, want), said == audit.All(rounds(), m.Snap()), int(f))
	}
	for _, c := range []struct {
		p    api.Program
		c    api.Conf
		plan pct.Plan
		want api.Fault
	}{
		{api.Program{}, api.Conf{}, pct.Plan{}, api.BadArg}, {exit, api.Conf{}, pct.Plan{}, api.Range}, {exit, conf, pct.Plan{}, api.BadArg}, {exit, conf, pct.Plan{Every: 2, Steps: -1}, api.BadArg}, {exit, conf, pct.Plan{Every: 2, Changes: 101}, api.BadArg},
	} {
		l, said, f := One(c.p, c.c, c.plan)
		is(t, "fault", fmt.Sprint("true  ", int(c.want)), l == nil, said, int(f))
		is(t, "of all", fmt.Sprint("{0 0 0 0 0 0} ", int(c.want), " 0 ", int(c.want)), both(c.p, c.c, c.plan, 0))
	}
}

func TestRun(t *testing.T) { // P4402
	plan := pct.Plan{Seed: math.MaxUint64, Steps: 100, Every: 2}
	is(t, "example", "{7 7 0 7 0 -1} 0 1 0", both(exit, conf, plan, 7))
	is(t, "one run", "{1 1 0 1 0 -1} 0 1 0", both(exit, conf, plan, 1))
	for _, runs := range []int{0, -1, 101, math.MaxInt, math.MinInt} {
		is(t, fmt.Sprint("runs ", runs), "{0 0 0 0 0 0} 2 0 2", both(exit, conf, plan, runs))
	}
	is(t, "most", "{100 100 0 100 0 -1} 0 1 0", both(exit, conf, plan, 100))
	p := rounds()
	p.Funcs[0].Code[4] = api.Instr{Op: api.OpJump, N: 4}
	plan = pct.Plan{Seed: math.MaxUint64 - 2, Steps: 25, Changes: 30, Every: 4}
	want := Result{Runs: 30, First: -1}
	for n := range 30 {
		one := plan
		one.Seed += uint64(n)
		one.Machines = conf.Ms
		script, _ := pct.Script(one)
		m, _ := machine.New(p, conf)
		want.Events += len(m.Run(script))
		if m.Quiet() {
			want.Quiet++
		}
		if m.Snap().Holder != 0 {
			want.Held++
			if want.First < 0 {
				want.First = n
			}
		}
	}
	r, f := Run(p, conf, plan, 30)
	is(t, "some hold it", fmt.Sprint(want, 0), fmt.Sprint(r, int(f)))
	if want.Held == 0 || want.Held == 30 {
		t.Error("the test says little", want)
	}
}

func TestUnlike(t *testing.T) { // P4403
	p := rounds()
	plan := pct.Plan{Seed: 1, Steps: 200, Changes: 20, Every: 5}
	seen := map[string]bool{}
	for n := range 40 {
		one := plan
		one.Seed += uint64(n)
		l, _, _ := One(p, conf, one)
		seen[fmt.Sprint(l)] = true
	}
	n, f := Unlike(p, conf, plan, 40)
	is(t, "Unlike", fmt.Sprint(len(seen), 0), n, int(f))
	if n < 2 {
		t.Error("all alike")
	}
}

func TestLaw(t *testing.T) { // P4404
	for n := range 50 {
		p, _ := gen.Random(uint64(n), 1+n%5, 6+n%40)
		plan := pct.Plan{Seed: uint64(n) << 50, Steps: 300, Changes: n % 50, Every: 2 + n%20}
		r, f := Run(p, api.Conf{Procs: 1 + n%6, Gs: 1 + n%9, Ms: 1 + n%7}, plan, 10)
		if f != api.OK || r.Wrong != 0 || r.Runs != 10 {
			t.Fatal(n, r, f)
		}
	}
}
