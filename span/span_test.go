package span_test

import (
	"fmt"
	"math"
	"strings"
	"testing"

	"escapement/api"
	"escapement/asm"
	"escapement/gen"
	"escapement/machine"
	"escapement/script"
	. "escapement/span"
	"escapement/valid"
)

func is(t *testing.T, what string, want string, got ...any) {
	t.Helper()
	if s := fmt.Sprintln(got...); s != want+"\n" {
		t.Errorf("%s: %s, not %s", what, s, want)
	}
}

func program(t *testing.T, lines ...string) api.Program {
	t.Helper()
	p, line, f := asm.Parse(strings.Join(lines, "\n") + "\n")
	if f != api.OK {
		t.Fatal("line", line, lines)
	}
	return valid.Mend(p)
}

var one = api.Conf{Procs: 1, Gs: 1, Ms: 1}

func TestCalls(t *testing.T) { // P3601
	p := program(t, "func", "stop", "start", "exit")
	l := []api.Event{{Kind: 1, G: 1}, {Kind: 2, G: 1}, {Kind: 2, G: 1, PC: 1}}
	is(t, "example", "[{17 1 0 1}] []", Calls(p, l), Open(p, l))
	l = []api.Event{
		{Kind: 1, G: 1}, {Kind: 1, G: 2, PC: 2}, {Kind: 2, G: 3}, {Kind: 2, G: 2, PC: 2}, {Kind: 2, G: 1, PC: 1}, {Kind: 2, G: 1},
		{Kind: 1, G: 2}, {Kind: 1, G: 2}, {Kind: 2, G: 2}, {Kind: 1, G: 5, PC: 9}, {Kind: 3, G: 5, PC: 9}, {Kind: 2, G: 5, PC: 9}, {Kind: 1, G: 4}, {Kind: 2, G: 4, Func: 1}, {Kind: 1, G: 1},
	}
	is(t, "Calls", "[{17 1 0 -1} {14 2 1 3} {17 2 6 -1} {17 2 7 8} {-1 5 9 -1} {17 4 12 -1} {17 1 14 -1}]", Calls(p, l))
	is(t, "Open", "[{17 1 0 -1} {17 2 6 -1} {-1 5 9 -1} {17 4 12 -1} {17 1 14 -1}]", Open(p, l))
	is(t, "none", "[] []", Calls(p, nil), Open(p, l[2:4]))
}

func worst(l ...Span) string {
	s, ok := Worst(l)
	return fmt.Sprint(s, ok)
}

func TestWorst(t *testing.T) { // P3602
	is(t, "none", "{0 0 0 0} false {0 0 0 0} false", worst(), worst(Span{1, 2, 3, -1}))
	is(t, "the first of the longest", "{2 0 4 9} true", worst(Span{1, 0, 0, 3}, Span{2, 0, 4, 9}, Span{3, 0, 5, 10}, Span{4, 0, 0, -1}))
	is(t, "to the end ahead of the beginning", "{0 0 5 4} true {0 0 5 5} true", worst(Span{0, 0, 9, 3}, Span{0, 0, 5, 4}, Span{0, 0, 9, 7}), worst(Span{0, 0, 9, 3}, Span{0, 0, 5, 5}))
	is(t, "the first of the least far back", "{1 0 5 3} true", worst(Span{0, 0, 9, 3}, Span{1, 0, 5, 3}, Span{2, 0, 9, 7}))
	is(t, "the whole range", "{2 0 -9223372036854775808 9223372036854775807} true", worst(Span{1, 0, math.MaxInt, math.MinInt}, Span{2, 0, math.MinInt, math.MaxInt}, Span{3, 0, 0, math.MaxInt}))
	is(t, "and back", "{3 0 0 -5} true", worst(Span{1, 0, math.MaxInt, math.MinInt}, Span{2, 0, math.MaxInt, 0}, Span{3, 0, 0, -5}))
}

func TestHoldsQuiet(t *testing.T) { // P3603, P3604
	p := program(t, "func", "stop", "start", "exit")
	l := []api.Event{{Kind: 1, G: 1}, {Kind: 2, G: 1}, {Kind: 2, G: 1, PC: 1}}
	both := func(p api.Program, c api.Conf, l []api.Event) string {
		h, f := Holds(p, c, l)
		q, g := Quiet(p, c, l)
		return fmt.Sprint(h, int(f), " ", q, int(g))
	}
	is(t, "example", "[{17 1 1 2}] 0 0 0", both(p, one, l))
	is(t, "yet", "[{17 1 1 -1}] 0 0 0", both(p, one, l[:2]))
	is(t, "faults", "[] 9 0 9 [] 1 0 1 [] 2 0 2", both(p, one, l[1:]), both(api.Program{}, one, l), both(p, api.Conf{}, nil))
	p = program(t, "func", "stop", "nop", "nop", "start", "nop", "stop", "nop", "exit")
	m, _ := machine.New(p, one)
	l = m.Run(script.Robin(100, 0))
	h, _ := Holds(p, one, l)
	n, _ := Quiet(p, one, l)
	is(t, "twice, the exit ends it", "10 [{17 1 1 4} {17 1 7 9}] 3", len(l), h, n)
	h, _ = Holds(p, one, l[:9])
	n, _ = Quiet(p, one, l[:9])
	is(t, "to the end", "[{17 1 1 4} {17 1 7 -1}] 3", h, n)
}

func TestLaw(t *testing.T) { // P3605
	holds := 0
	for n := range 80 {
		p, _ := gen.Random(uint64(n), 1+n%3, 10+n%30)
		if n%2 == 0 {
			p, _ = gen.Guard(1 + n%20)
		}
		c := api.Conf{Procs: 1 + n%3, Gs: 4, Ms: 3}
		m, _ := machine.New(p, c)
		l := m.Run(script.Robin(500, n%5))
		spans, f := Holds(p, c, l)
		if f != api.OK {
			t.Fatal(f)
		}
		last := -1
		for _, s := range spans {
			holds++
			if s.From <= last {
				t.Fatal("they overlap", spans)
			}
			if last = s.To; last < 0 {
				last = len(l)
			}
			for _, e := range l[s.From:min(last+1, len(l))] {
				if e.G != s.G {
					t.Fatal("another one's event", e, s)
				}
			}
		}
	}
	if holds < 100 {
		t.Error("too few", holds)
	}
}
