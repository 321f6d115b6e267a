package event_test

import (
	"fmt"
	"math"
	"testing"

	"escapement/api"
	. "escapement/event"
)

func is(t *testing.T, what string, want string, got ...any) {
	t.Helper()
	if s := fmt.Sprintln(got...); s != want+"\n" {
		t.Errorf("%s: %s, not %s", what, s, want)
	}
}

var wrong = []api.Event{
	{}, {Kind: 3, G: 1}, {Kind: -1, G: 1}, {Kind: 1, G: 1, N: 1}, {Kind: 1}, {Kind: 2, G: 65}, {Kind: 2, G: -1}, {Kind: 2, G: 1, Func: 16}, {Kind: 2, G: 1, Func: -1}, {Kind: 2, G: 1, PC: 64}, {Kind: 2, G: 1, PC: -1}, {Kind: 1, G: math.MaxInt}, {Kind: 1, G: 1, PC: math.MinInt},
}

func TestLine(t *testing.T) { // P2901
	for e, want := range map[api.Event]string{
		{Kind: 1, G: 3, PC: 5}:                    "begin 3 0 5",
		{Kind: 2, G: 64, Func: 15, PC: 63, N: -7}: "commit 64 15 63 -7",
		{Kind: 2, G: 1, N: math.MinInt64}:         "commit 1 0 0 -9223372036854775808",
		{Kind: 1, G: 1, Func: 15, PC: 63}:         "begin 1 15 63",
	} {
		line, f := Line(e)
		is(t, want, want+" 0 true", line, int(f), Right(e))
	}
	for _, e := range wrong {
		line, f := Line(e)
		text, g := Print([]api.Event{{Kind: 2, G: 1}, e})
		is(t, fmt.Sprint(e), "false  1  1", Right(e), line, int(f), text, int(g))
	}
	text, f := Print([]api.Event{{Kind: 1, G: 2}, {Kind: 2, G: 2, N: 4}})
	none, g := Print(nil)
	is(t, "Print", "begin 2 0 0\ncommit 2 0 0 4\n 0  0", text, int(f), none, int(g))
}

func TestParse(t *testing.T) { // P2902
	l, n, f := Parse("begin 3 0 5\ncommit 3 0 5 -9\n")
	is(t, "read", "[{1 3 0 5 0} {2 3 0 5 -9}] 0 0", l, n, int(f))
	l, n, f = Parse("")
	is(t, "none", "[] 0 0", l, n, int(f))
	for s, line := range map[string]int{
		"begin 3 0 5": 1, "\n": 1, "begin 3 0 5\n\n": 2, "begin 3 0\n": 1, "begin 3 0 5 0\n": 1, "commit 3 0 5\n": 1, "commit 3 0 5 1 1\n": 1, "Begin 3 0 5\n": 1, "begin  3 0 5\n": 1, "begin 3 0 5 \n": 1, " begin 3 0 5\n": 1,
		"begin 0 0 5\n": 1, "begin 65 0 5\n": 1, "begin 1 16 5\n": 1, "begin 1 0 64\n": 1, "begin 01 0 5\n": 1, "begin -1 0 5\n": 1, "commit 1 0 0 9223372036854775808\n": 1, "commit 1 0 0 -0\n": 1, "other 1 0 0\n": 1, "commit 1 0 0 1\ncommit 1 0 1 1\nx\ny\n": 3, "begin 1 0 0\r\n": 1, "commit 4294967297 0 0 1\n": 1,
	} {
		l, n, f := Parse(s)
		is(t, fmt.Sprintf("%q", s), fmt.Sprint("[] ", line, " 3"), l, n, int(f))
	}
}

func TestAsked(t *testing.T) { // P2903
	p := api.Program{Funcs: []api.Func{{Code: []api.Instr{{Op: api.OpEmit}, {Op: api.OpNop}, {Op: -5}}}}}
	l := []api.Event{{Kind: 2, G: 1, N: 4}, {Kind: 1, G: 1, N: 9}, {Kind: 2, G: 2, N: 5}, {Kind: 2, G: 1, PC: 1, N: 6}, {Kind: 2, G: 1, PC: 3, N: 7}, {Kind: 3, G: 1, N: 8}}
	is(t, "Of", "[{2 2 0 0 5}] [] 5", Of(l, 2), Of(l, 3), len(Of(l, 1)))
	is(t, "Op", "15 0 -5 -1 -1 -1 -1", Op(p, l[0]), Op(p, l[3]), Op(p, api.Event{PC: 2}), Op(p, l[4]), Op(p, api.Event{Func: 1}), Op(p, api.Event{Func: -1}), Op(p, api.Event{PC: math.MinInt}))
	is(t, "Emits", "[4] [5] [4 5] [] []", Emits(p, l, 1), Emits(p, l, 2), Emits(p, l, 0), Emits(p, l, -1), Emits(api.Program{}, l, 0))
	m := append([]api.Event{}, l...)
	is(t, "Same", "true true false false", Same(l, m), Same(nil, m[:0]), Same(l, l[1:]), Same(l, append(m[:5], api.Event{})))
}

func TestLaw(t *testing.T) { // P2904
	seed := uint64(5)
	below := func(n int) int {
		seed = seed*6364136223846793005 + 1442695040888963407
		return int(seed >> 33 % uint64(n))
	}
	for range 200 {
		var l []api.Event
		for range below(40) {
			e := api.Event{Kind: 1 + below(2), G: 1 + below(64), Func: below(16), PC: below(64)}
			if e.Kind == api.EvCommit {
				e.N = int64(below(1<<30)-1<<29) << below(30)
			}
			l = append(l, e)
		}
		text, f := Print(l)
		back, n, g := Parse(text)
		if f != api.OK || g != api.OK || n != 0 || !Same(l, back) {
			t.Fatal("there and back", l)
		}
	}
}
