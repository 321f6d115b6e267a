package audit_test

import (
	"fmt"
	"math"
	"strings"
	"testing"

	"escapement/api"
	"escapement/asm"
	. "escapement/audit"
	"escapement/machine"
	"escapement/valid"
)

func is(t *testing.T, what string, want string, got ...any) {
	t.Helper()
	if s := fmt.Sprintln(got...); s != want+"\n" {
		t.Errorf("%s: %s, not %s", what, s, want)
	}
}

func program(t *testing.T, lines ...string) api.Program {
	t.Helper()
	p, line, f := asm.Parse(strings.Join(lines, "\n") + "\n")
	if f != api.OK {
		t.Fatal("line", line, lines)
	}
	return valid.Mend(p)
}

// good: 1 runs, 2 is in sys, 3 and 4 wait in queues, 5 waits, 6 is suspended, 7 is dead; three processors, four machines.
func good() api.Snap {
	return api.Snap{
		Status:  []int{api.GRunning, api.GSyscall, api.GRunnable, api.GRunnable, api.GWaiting, api.GPreempted | api.Scan, api.GDead},
		Threads: []api.Thread{{}, {}, {}, {}, {}, {}, {Done: true}},
		PStatus: []int{api.PRunning, api.PSyscall, api.PIdle},
		PM:      []int{3, 0, -1},
		Queues:  [][]int{{3}, nil, nil},
		Counts:  []int{1, 1, 1},
		MP:      []int{1, -1, -1, 0},
		MG:      []int{2, 0, 0, 1},
		Parked:  []bool{false, true, true, false},
		Global:  []int{4},
	}
}

// held: 1 holds the world.
func held() api.Snap {
	s := good()
	s.Holder = 1
	s.PStatus = []int{api.PStopped, api.PStopped, api.PStopped}
	s.PM = []int{3, -1, -1}
	s.MP = []int{-1, -1, -1, 0}
	return s
}

func two(n int, ok bool) string { return fmt.Sprint(n, ok) }

// with: what is told of a snap that is changed.
func with(s api.Snap, change func(s *api.Snap)) api.Snap {
	change(&s)
	return s
}

var exit = api.Program{Funcs: []api.Func{{Code: []api.Instr{{}, {Op: api.OpExit}}, Safe: []bool{false, false}}}}

func TestShape(t *testing.T) { // P3201 to P3205: of a snap without a shape
	is(t, "good", "true true true", Shape(good()), Shape(held()), Shape(api.Snap{}))
	for i, change := range []func(s *api.Snap){
		func(s *api.Snap) { s.Threads = s.Threads[1:] }, func(s *api.Snap) { s.PM = nil }, func(s *api.Snap) { s.Queues = s.Queues[:2] }, func(s *api.Snap) { s.Counts = append(s.Counts, 1) },
		func(s *api.Snap) { s.MG = s.MG[:1] }, func(s *api.Snap) { s.Parked = nil }, func(s *api.Snap) { s.Holder = 8 }, func(s *api.Snap) { s.Holder = -1 }, func(s *api.Snap) { s.Holder = math.MaxInt },
	} {
		s := with(good(), change)
		is(t, fmt.Sprint("shape ", i), "false -1 false -1 false -1 false -1 false shape ", Shape(s), two(Places(s)), two(Procs(s)), two(Stopped(s)), two(Suspended(exit, s)), All(exit, s), Where(s, 1))
	}
	is(t, "the last goroutine", "true", Shape(with(good(), func(s *api.Snap) { s.Holder = 7 })))
}

func TestPlaces(t *testing.T) { // P3201
	is(t, "good", "0 true 0 true 0 true", two(Places(good())), two(Places(held())), two(Places(api.Snap{})))
	for i, c := range []struct {
		g      int
		change func(s *api.Snap)
	}{
		{1, func(s *api.Snap) { s.Status[0] = api.GIdle }}, {1, func(s *api.Snap) { s.Status[0] = 10 }}, {5, func(s *api.Snap) { s.Status[4] = api.GIdle }}, {5, func(s *api.Snap) { s.Status[4] = -1 }}, {1, func(s *api.Snap) { s.MG[3] = 0 }}, {1, func(s *api.Snap) { s.MG[1] = 1 }}, {1, func(s *api.Snap) { s.Global = append(s.Global, 1) }},
		{2, func(s *api.Snap) { s.MG[0] = 0 }}, {3, func(s *api.Snap) { s.Queues[0] = nil }}, {3, func(s *api.Snap) { s.Queues[2] = []int{3} }}, {4, func(s *api.Snap) { s.Queues[1] = []int{4} }}, {3, func(s *api.Snap) { s.MG[1] = 3 }},
		{5, func(s *api.Snap) { s.MG[1] = 5 }}, {5, func(s *api.Snap) { s.Global = []int{5, 4} }}, {6, func(s *api.Snap) { s.Global = []int{6, 4} }}, {7, func(s *api.Snap) { s.Threads[6].Done = false }}, {7, func(s *api.Snap) { s.MG[1] = 7 }}, {3, func(s *api.Snap) { s.Threads[2].Done = true }},
	} {
		s := with(good(), c.change)
		is(t, fmt.Sprint("places ", i), fmt.Sprintf("%d false places", c.g), two(Places(s)), All(exit, s))
	}
	is(t, "with Scan", "0 true", two(Places(with(good(), func(s *api.Snap) { s.Status[1] |= 8; s.Status[2] |= 8; s.Status[4] |= 8 }))))
	is(t, "nobody's ids", "0 true", two(Places(with(good(), func(s *api.Snap) { s.Global = append(s.Global, 99, 0, -4) }))))
}

func TestProcs(t *testing.T) { // P3202
	is(t, "good", "0 true 0 true 0 true", two(Procs(good())), two(Procs(held())), two(Procs(api.Snap{})))
	for i, c := range []struct {
		n      int
		change func(s *api.Snap)
	}{
		{0, func(s *api.Snap) { s.PM[0] = 2 }}, {0, func(s *api.Snap) { s.MP[3] = -1 }}, {0, func(s *api.Snap) { s.MP[1] = 0 }}, {1, func(s *api.Snap) { s.MP[0] = -1 }}, {1, func(s *api.Snap) { s.PM[1] = 1 }},
		{2, func(s *api.Snap) { s.MP[2] = 2 }}, {2, func(s *api.Snap) { s.Queues[2] = []int{9} }}, {2, func(s *api.Snap) { s.PStatus[2] = api.PDead }}, {2, func(s *api.Snap) { s.PStatus[2] = 5 }}, {2, func(s *api.Snap) { s.PStatus[2] = -1 }},
		{2, func(s *api.Snap) { s.PStatus[2] = api.PStopped; s.MP[1], s.MP[2] = 2, 2 }}, {4, func(s *api.Snap) { s.MP[1] = 3 }}, {4, func(s *api.Snap) { s.MP[1] = -2 }}, {4, func(s *api.Snap) { s.MP[1], s.Parked[1] = 3, false }}, {4, func(s *api.Snap) { s.MP[1], s.Parked[1] = -2, false }}, {5, func(s *api.Snap) { s.MG[2] = 9 }}, {5, func(s *api.Snap) { s.PStatus[2] = api.PStopped; s.MP[2] = 2 }},
	} {
		s := with(good(), c.change)
		is(t, fmt.Sprint("procs ", i), fmt.Sprintf("%d false", c.n), two(Procs(s)))
	}
	is(t, "All", "procs", All(exit, with(good(), func(s *api.Snap) { s.PM[0] = 2 })))
	is(t, "Stopped, had by one", "0 true", two(Procs(with(good(), func(s *api.Snap) { s.PStatus[2] = api.PStopped; s.MP[2] = 2; s.Parked[2] = false }))))
}

func TestStopped(t *testing.T) { // P3203
	is(t, "good", "0 true 0 true 0 true", two(Stopped(good())), two(Stopped(held())), two(Stopped(api.Snap{})))
	for i, c := range []struct {
		n      int
		change func(s *api.Snap)
	}{
		{1, func(s *api.Snap) { s.PStatus[1] = api.PIdle }}, {4, func(s *api.Snap) { s.MP[1] = 1 }}, {3, func(s *api.Snap) { s.MP[0] = 1 }}, {9, func(s *api.Snap) { s.Status[1] = api.GRunning }}, {6, func(s *api.Snap) { s.Holder = 2 }},
	} {
		is(t, fmt.Sprint("stopped ", i), fmt.Sprintf("%d false", c.n), two(Stopped(with(held(), c.change))))
	}
	is(t, "All", "stopped", All(exit, with(held(), func(s *api.Snap) { s.PStatus[1] = api.PIdle })))
	s := with(held(), func(s *api.Snap) { s.Holder = 2; s.MP[3] = -1 })
	is(t, "another one runs", "8 false", two(Stopped(s)))
}

func TestSuspended(t *testing.T) { // P3204
	is(t, "good", "0 true 0 true", two(Suspended(exit, good())), two(Suspended(exit, api.Snap{})))
	for i, c := range []struct {
		g      int
		change func(s *api.Snap)
	}{
		{6, func(s *api.Snap) { s.Threads[5].PC = 1 }}, {6, func(s *api.Snap) { s.Threads[5].PC = 2 }}, {6, func(s *api.Snap) { s.Threads[5].Done = true }}, {6, func(s *api.Snap) { s.Threads[5].Stack = make([]api.Frame, 17) }}, {5, func(s *api.Snap) { s.Status[4] |= 8; s.Threads[4].Func = 3 }},
	} {
		is(t, fmt.Sprint("suspended ", i), fmt.Sprintf("%d false", c.g), two(Suspended(exit, with(good(), c.change))))
	}
	is(t, "a program that may not run", "6 false suspended", two(Suspended(api.Program{}, good())), All(api.Program{}, good()))
	is(t, "none has Scan", "0 true", two(Suspended(api.Program{}, with(good(), func(s *api.Snap) { s.Status[5] = 5 }))))
}

func TestAllWhere(t *testing.T) { // P3205
	is(t, "All", "  ", All(exit, good()), All(exit, held()), All(api.Program{}, api.Snap{}))
	s := good()
	is(t, "Where", "run 3 run 0 queue 0 global waits preempted dead run 1 none none", Where(s, 1), Where(s, 2), Where(s, 3), Where(s, 4), Where(s, 5), Where(s, 6), Where(s, 7), Where(s, 0), Where(s, 8), Where(s, -1))
	s.Queues[2], s.Global, s.MG[1] = []int{5, 3}, []int{6, 99}, 2
	is(t, "the first one", "run 0 queue 0 queue 2 global global", Where(s, 2), Where(s, 3), Where(s, 5), Where(s, 6), Where(s, 99))
	is(t, "no place by its status", "none", Where(with(good(), func(s *api.Snap) { s.Queues[0] = nil }), 3))
	is(t, "the first goroutine", "waits", Where(with(good(), func(s *api.Snap) { s.MG[3], s.Status[0] = 0, api.GWaiting }), 1))
	is(t, "no words", "none none", Where(api.Snap{}, 0), Where(api.Snap{}, math.MinInt))
}

func TestMachines(t *testing.T) { // P2804, P2805 by these rules
	for n, lines := range []string{"spawn r1 0\nself r1\nstop\nnop\nstart\nsys r1\nbarrier\njump 1", "spawn r1 0\nspawn r1 0\nself r2\nadd r2 r2 r2\nsuspend r2\nyield\nresume r2\nblock\nexit"} {
		p := program(t, append([]string{"func"}, strings.Split(lines, "\n")...)...)
		m, f := machine.New(p, api.Conf{Procs: 3, Gs: 5, Ms: 4})
		if f != api.OK {
			t.Fatal(f)
		}
		for i := range 3000 {
			m.Step(api.Entry{Pick: i * (n + 1), Delay: i % 5, Draw: i})
			if why := All(p, m.Snap()); why != "" {
				t.Fatal(why, i, m.Snap())
			}
		}
	}
}
