package checks

import (
	"math"
	"testing"

	"escapement/alone"
	"escapement/api"
	"escapement/asm"
	"escapement/audit"
	"escapement/chart"
	"escapement/code"
	"escapement/console"
	"escapement/dump"
	"escapement/event"
	"escapement/fair"
	"escapement/flow"
	"escapement/gen"
	"escapement/lint"
	"escapement/machine"
	"escapement/mark"
	"escapement/model"
	"escapement/pct"
	"escapement/reach"
	"escapement/script"
	"escapement/shrink"
	"escapement/span"
	"escapement/stress"
	"escapement/tally"
	"escapement/valid"
	"escapement/vm"
)

// junk throws what calls may be given, of which most is wrong in some way.
type junk struct{ *gen.Dice }

func (j junk) number() int {
	far := [...]int{-1, -2, 15, 16, 63, 64, 65, 255, 256, math.MaxInt, math.MaxInt - 1, math.MinInt}
	if j.Below(3) > 0 {
		return j.Below(9)
	}
	return far[j.Below(len(far))]
}

func (j junk) list() []int {
	l := make([]int, j.Below(5))
	for i := range l {
		l[i] = j.number()
	}
	return l
}

func (j junk) truths(n int) []bool {
	l := make([]bool, n)
	for i := range l {
		l[i] = j.Below(2) == 0
	}
	return l
}

func (j junk) program() api.Program {
	if j.Below(4) == 0 {
		p, _ := gen.Random(j.Next(), 1+j.Below(4), 1+j.Below(9))
		return p
	}
	var p api.Program
	for range j.Below(5) {
		var f api.Func
		for range j.Below(8) {
			i := api.Instr{Op: j.Below(26) - 1, A: j.Below(8), N: int64(j.number())}
			if j.Below(4) == 0 {
				i.A, i.B, i.C = j.number(), j.number(), j.number()
			}
			f.Code = append(f.Code, i)
		}
		f.Safe = j.truths(len(f.Code) + j.Below(4)/3)
		p.Funcs = append(p.Funcs, f)
	}
	return p
}

func (j junk) conf() api.Conf {
	if j.Below(3) == 0 {
		return api.Conf{Procs: j.number(), Gs: j.number(), Ms: j.number()}
	}
	return api.Conf{Procs: 1 + j.Below(4), Gs: 1 + j.Below(4), Ms: 1 + j.Below(4)}
}

func (j junk) thread() api.Thread {
	t := api.Thread{Func: j.number(), PC: j.number(), Done: j.Below(4) == 0}
	for range j.Below(4) {
		t.Stack = append(t.Stack, api.Frame{Func: j.number(), PC: j.number()})
	}
	return t
}

func (j junk) snap() api.Snap {
	s := api.Snap{Holder: j.number(), Status: j.list(), PStatus: j.list(), MP: j.list(), Global: j.list()}
	for range s.Status {
		s.Threads = append(s.Threads, j.thread())
	}
	for range s.PStatus {
		s.PM, s.Queues, s.Counts = append(s.PM, j.number()), append(s.Queues, j.list()), append(s.Counts, j.number())
	}
	for range s.MP {
		s.MG = append(s.MG, j.number())
	}
	s.Parked = j.truths(len(s.MP) + j.Below(6)/5)
	return s
}

func (j junk) text() string {
	words := [...]string{"func", "\n", " ", "* ", "exit", "holder", "g", "p", "m", "global", "0", "1", "-1", "begin", "commit", "r0", "const", "99999999999999999999", "done", "not", "nop\n", "func\n", "0 0 0\n", "holder 0\n"}
	s := ""
	for range j.Below(14) {
		s += words[j.Below(len(words))]
	}
	return s
}

func (j junk) events() []api.Event {
	l := make([]api.Event, j.Below(6))
	for i := range l {
		l[i] = api.Event{Kind: j.Below(4), G: j.number(), Func: j.number(), PC: j.number(), N: int64(j.number())}
	}
	return l
}

func (j junk) entries() []api.Entry {
	l := make([]api.Entry, j.Below(30))
	for i := range l {
		l[i] = api.Entry{Pick: j.number(), Delay: j.number(), Draw: j.number()}
	}
	return l
}

// TestNothingPanics: every call ends, and none panics, whatever it is given (the document's first rule).
func TestNothingPanics(t *testing.T) {
	j := junk{gen.New(99)}
	for n := range 20000 {
		p, c, events, entries := j.program(), j.conf(), j.events(), j.entries()
		programs(j, p)
		worlds(t, j, p, c, entries, events)
		told(j, p, c, events, entries)
		if n%40 == 0 {
			reach.Search(p, c, j.Below(6))
			reach.Stuck(p, c, j.number()%7)
			shrink.Cut(p, c, entries)
			stress.Run(p, c, pct.Plan{Seed: j.Next(), Steps: j.Below(50), Changes: j.number(), Every: 2 + j.Below(9)}, j.number()%5)
		}
	}
}

func programs(j junk, p api.Program) {
	var f api.Func
	if len(p.Funcs) > 0 {
		f = p.Funcs[0]
	}
	flow.Next(f, j.number())
	flow.Reach(f)
	flow.Gap(f)
	flow.Bound(p)
	flow.Calls(p, j.number())
	flow.Used(p)
	valid.Check(p)
	valid.Mend(p)
	valid.Stops(f, j.number())
	code.Print(p)
	code.Parse([]byte(j.text()))
	asm.Print(p)
	asm.Parse(j.text())
	vm.At(p, j.thread())
	vm.Step(p, j.thread(), int64(j.number()))
	alone.Run(p, j.Below(50))
	lint.Text(p)
	lint.Effects(p)
	lint.Depth(p)
	mark.Func(f, j.number())
	mark.Program(p, j.number())
}

func worlds(t *testing.T, j junk, p api.Program, c api.Conf, entries []api.Entry, events []api.Event) {
	m, _ := machine.New(p, c)
	m.Run(entries)
	if why := audit.All(p, m.Snap()); m != nil && why != "" {
		t.Fatal(why)
	}
	other, _ := model.New(p, c)
	for _, e := range events {
		other.Do(e)
		other.Can(e.G)
		other.Thread(e.G)
	}
	reach.Next(p, c, events)
	fair.Least(p, c, entries)
	fair.Move(p, j.number(), j.number(), j.number())
	shrink.Prefix(p, c, entries)
	pct.Script(pct.Plan{Seed: j.Next(), Machines: j.number(), Steps: j.Below(20) - 1, Changes: j.number(), Every: j.number()})
	console.Run(console.Job{Program: j.text(), Conf: j.text(), Script: j.text()})
	console.Judge(console.Job{Program: "func\nexit\n", Conf: "1 1 1", Script: "0 0 0\n"}, j.text())
}

func told(j junk, p api.Program, c api.Conf, events []api.Event, entries []api.Entry) {
	s := j.snap()
	event.Print(events)
	event.Parse(j.text())
	event.Emits(p, events, j.number())
	script.Parse(j.text())
	script.Only(entries, j.number(), j.number())
	script.Conf(j.text())
	audit.All(p, s)
	audit.Where(s, j.number())
	audit.Suspended(p, s)
	tally.Text(p, events)
	tally.Ops(p, events)
	tally.Sum(events, j.number(), j.number())
	span.Calls(p, events)
	span.Worst([]span.Span{{From: j.number(), To: j.number()}, {From: j.number(), To: j.number()}})
	span.Quiet(p, c, events)
	dump.Print(s)
	dump.Parse(j.text())
	dump.Same(s, j.snap())
	chart.Rows(p, events, j.number())
	chart.Gaps(events, j.number())
	chart.Head(j.number(), j.number())
}
