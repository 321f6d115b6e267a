package dump_test

import (
	"fmt"
	"math"
	"strings"
	"testing"

	"escapement/api"
	. "escapement/dump"
	"escapement/gen"
	"escapement/machine"
	"escapement/script"
)

func is(t *testing.T, what string, want string, got ...any) {
	t.Helper()
	if s := fmt.Sprintln(got...); s != want+"\n" {
		t.Errorf("%s: %q, not %q", what, s, want)
	}
}

func good() api.Snap {
	return api.Snap{
		Holder:  2,
		Status:  []int{api.GDead, api.GRunning, api.GPreempted | api.Scan},
		Threads: []api.Thread{{Done: true}, {Func: 255, PC: 3, Regs: [8]int64{1, -2, 7: math.MinInt64}, Stack: []api.Frame{{Func: 1, PC: 2}, {Func: 3, PC: 255}}}, {}},
		PStatus: []int{3, 0},
		PM:      []int{0, -1},
		Queues:  [][]int{{5, 3}, nil},
		Counts:  []int{4, 0},
		MP:      []int{0, -1},
		MG:      []int{2, 0},
		Parked:  []bool{false, true},
		Global:  []int{7},
	}
}

const text = "holder 2\ng 1 dead done\ng 2 running 255 3 1 -2 0 0 0 0 0 -9223372036854775808 1 2 3 255\ng 3 preempted+ 0 0 0 0 0 0 0 0 0 0\np 0 3 0 4 5 3\np 1 0 -1 0\nm 0 0 2 not\nm 1 -1 0 parked\nglobal 7\n"

func with(change func(s *api.Snap)) api.Snap {
	s := good()
	change(&s)
	return s
}

func TestRightPrint(t *testing.T) { // P4201
	s, f := Print(good())
	is(t, "good", "true "+text+" 0", Right(good()), s, int(f))
	s, f = Print(api.Snap{})
	is(t, "example", "holder 0\nglobal\n 0", s, int(f))
	for i, change := range []func(s *api.Snap){
		func(s *api.Snap) { s.Holder = 4 }, func(s *api.Snap) { s.PM = nil }, func(s *api.Snap) { s.Status[1] = 10 }, func(s *api.Snap) { s.Status[1] = -1 }, func(s *api.Snap) { s.PStatus[0] = 5 }, func(s *api.Snap) { s.PStatus[0] = -1 },
		func(s *api.Snap) { s.Threads[0].PC = 1 }, func(s *api.Snap) { s.Threads[0].Regs[7] = 1 }, func(s *api.Snap) { s.Threads[0].Stack = make([]api.Frame, 1) }, func(s *api.Snap) { s.Threads[1].Func = 256 }, func(s *api.Snap) { s.Threads[1].PC = -1 },
		func(s *api.Snap) { s.Threads[1].Stack = make([]api.Frame, 17) }, func(s *api.Snap) { s.Threads[1].Stack[1].PC = 256 }, func(s *api.Snap) { s.Threads[1].Stack[0].Func = -1 },
		func(s *api.Snap) { s.Status, s.Threads = make([]int, 65), make([]api.Thread, 65) },
		func(s *api.Snap) {
			s.PStatus, s.PM, s.Queues, s.Counts = make([]int, 257), make([]int, 257), make([][]int, 257), make([]int, 257)
		},
		func(s *api.Snap) { s.MP, s.MG, s.Parked = make([]int, 65), make([]int, 65), make([]bool, 65) },
	} {
		bad := with(change)
		s, f := Print(bad)
		is(t, fmt.Sprint("bad ", i), "false  1", Right(bad), s, int(f))
	}
	most := with(func(s *api.Snap) {
		s.Status, s.Threads = make([]int, 64), make([]api.Thread, 64)
		s.PStatus, s.PM, s.Queues, s.Counts = make([]int, 256), make([]int, 256), make([][]int, 256), make([]int, 256)
		s.MP, s.MG, s.Parked = make([]int, 64), make([]int, 64), make([]bool, 64)
		s.Threads[0].Stack = make([]api.Frame, 16)
	})
	s, f = Print(most)
	back, n, g := Parse(s)
	is(t, "most", "0 0 0 true", int(f), n, int(g), Same(most, back))
}

func TestDeadProcessor(t *testing.T) { // P4201, P4202
	dead := with(func(s *api.Snap) { s.PStatus[1] = api.PDead })
	text, f := Print(dead)
	back, n, g := Parse(text)
	is(t, "there and back", "0 0 0 true", int(f), n, int(g), Same(dead, back))
}

func TestSame(t *testing.T) { // P4201
	is(t, "alike", "true true", Same(good(), good()), Same(api.Snap{}, api.Snap{Global: []int{}, Queues: [][]int{}}))
	is(t, "nil or empty", "true", Same(good(), with(func(s *api.Snap) { s.Queues[1] = []int{} })))
	for i, change := range []func(s *api.Snap){
		func(s *api.Snap) { s.Holder = 1 }, func(s *api.Snap) { s.Status[0] = 1 }, func(s *api.Snap) { s.Threads[1].Stack[1].PC = 1 }, func(s *api.Snap) { s.Threads = s.Threads[:2] }, func(s *api.Snap) { s.PStatus[0] = 1 }, func(s *api.Snap) { s.PM[0] = 1 }, func(s *api.Snap) { s.Queues[0][1] = 1 },
		func(s *api.Snap) { s.Counts[0] = 1 }, func(s *api.Snap) { s.MP[0] = 1 }, func(s *api.Snap) { s.MG[0] = 1 }, func(s *api.Snap) { s.Parked[0] = true }, func(s *api.Snap) { s.Global = nil }, func(s *api.Snap) { s.Queues = s.Queues[:1] },
	} {
		is(t, fmt.Sprint("unlike ", i), "false false", Same(good(), with(change)), Same(with(change), good()))
	}
}

func TestStatus(t *testing.T) { // P4201
	for name, want := range map[string]string{"idle": "0 true", "dead": "6 true", "runnable": "1 true", "runnable+": "9 true", "syscall+": "11 true", "preempted+": "13 true", "": "0 false", "running+": "0 false", "Dead": "0 false", "+": "0 false"} {
		n, ok := Status(name)
		is(t, name, want, n, ok)
	}
}

func TestParse(t *testing.T) { // P4202
	s, n, f := Parse(text)
	is(t, "good", "true 0 0", Same(s, good()), n, int(f))
	s, n, f = Parse("holder 0\nglobal\n")
	is(t, "none", "true 0 0", Same(s, api.Snap{}), n, int(f))
	lines := strings.SplitAfter(text, "\n")
	for _, c := range []struct {
		at   int // the line that is changed; below 0: none
		line string
		want int
	}{
		{0, "holder 4\n", 1}, {0, "holder -1\n", 1}, {0, "holder\n", 1}, {0, "holder 1 1\n", 1}, {0, "holder x\n", 1}, {0, "Holder 1\n", 1}, {0, "", 1}, {0, "holder 1\nholder 1\n", 2}, {0, "global\n", 1}, {0, "\n", 1}, {0, "holder 01\n", 1}, {0, "holder 1 \n", 1},
		{1, "g 2 dead done\n", 2}, {1, "g 0 dead done\n", 2}, {1, "", 2}, {1, "g 1 dead\n", 2}, {1, "g 1 dead done done\n", 2}, {1, "g 1 other done\n", 2}, {1, "g 1 dead Done\n", 2}, {1, "g 1 dead 0 0 0 0 0 0 0 0 0\n", 2}, {1, "g 1 dead 0 0 0 0 0 0 0 0 0 0 0\n", 2}, {1, "g 1 dead 256 0 0 0 0 0 0 0 0 0\n", 2},
		{1, "g 1 dead 0 -1 0 0 0 0 0 0 0 0\n", 2}, {1, "g 1 dead 0 0 0 0 0 0 0 0 0 0 0 256\n", 2}, {1, "g 1 dead 0 0 0 0 0 0 0 0 0 0" + strings.Repeat(" 0 0", 17) + "\n", 2}, {1, "g 1 dead 0 0 0 0 0 0 0 0 0 9223372036854775808\n", 2}, {1, "g  1 dead done\n", 2},
		{4, "p 1 3 0 4 5 3\n", 5}, {4, "p 0 5 0 4\n", 5}, {4, "p 0 -1 0 4\n", 5}, {4, "p 0 3 0\n", 5}, {4, "p 0 3 0 4 x\n", 5}, {4, "", 5}, {4, "m 0 0 2 not\n", 6}, {5, "g 4 dead done\n", 6}, {4, "p 0 3 0 4 \n", 5},
		{6, "m 0 0 2\n", 7}, {6, "m 0 0 2 Not\n", 7}, {6, "m 1 0 2 not\n", 7}, {6, "m 0 0 2 3 not\n", 7}, {6, "m 0 x 2 not\n", 7}, {6, "p 2 0 0 0\n", 8}, {7, "p 2 0 0 0\n", 8}, {6, "m 0 0 not\n", 7},
		{8, "", 9}, {8, "global 7", 9}, {8, "global x\n", 9}, {8, "global 7\nglobal 7\n", 10}, {8, "global 7\n\n", 10}, {8, "global 7\nm 2 0 0 not\n", 10}, {8, "global  7\n", 9}, {8, "global 7\nx", 10}, {8, "m 2 0 0 not\n", 10},
	} {
		l := append([]string{}, lines...)
		l[c.at] = c.line
		s, n, f := Parse(strings.Join(l, ""))
		is(t, fmt.Sprint(c), fmt.Sprint("true ", c.want, " 3"), Same(s, api.Snap{}), n, int(f))
	}
	_, n, f = Parse("")
	is(t, "nothing", "1 3", n, int(f))
	_, n, f = Parse("holder 9\ng 1 dead done\nglobal x\n")
	is(t, "the holder is looked at last", "3 3", n, int(f))
	for _, c := range []struct {
		most int
		line func(i int) string
	}{
		{64, func(i int) string { return fmt.Sprint("g ", i+1, " dead done\n") }}, {256, func(i int) string { return fmt.Sprint("p ", i, " 0 0 0\n") }}, {64, func(i int) string { return fmt.Sprint("m ", i, " 0 0 not\n") }},
	} {
		s := "holder 0\n"
		for i := range c.most {
			s += c.line(i)
		}
		_, n, f := Parse(s + "global\n")
		_, m, g := Parse(s + c.line(c.most) + "global\n")
		is(t, c.line(0), fmt.Sprint("0 0 ", c.most+2, " 3"), n, int(f), m, int(g))
	}
}

func TestLaw(t *testing.T) { // P4203, P6
	for n := range 60 {
		p, _ := gen.Random(uint64(n), 1+n%4, 8+n%20)
		m, _ := machine.New(p, api.Conf{Procs: 1 + n%5, Gs: 1 + n%9, Ms: 1 + n%4})
		for i, e := range script.Robin(300, n%6) {
			m.Step(e)
			if i%20 != 0 {
				continue
			}
			s := m.Snap()
			text, f := Print(s)
			back, line, g := Parse(text)
			if f != api.OK || g != api.OK || line != 0 || !Same(s, back) {
				t.Fatal("there and back", n, i, f, g, line)
			}
		}
	}
}
