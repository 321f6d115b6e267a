package chart_test

import (
	"fmt"
	"math"
	"strings"
	"testing"

	"escapement/api"
	. "escapement/chart"
	"escapement/gen"
	"escapement/machine"
	"escapement/script"
)

func is(t *testing.T, what string, want string, got ...any) {
	t.Helper()
	if s := fmt.Sprintln(got...); s != want+"\n" {
		t.Errorf("%s: %q, not %q", what, s, want)
	}
}

// all: a program of all ops, and of such as are none.
func all() api.Program {
	var f api.Func
	for op := range 24 {
		f.Code = append(f.Code, api.Instr{Op: op})
	}
	f.Code = append(f.Code, api.Instr{Op: 24}, api.Instr{Op: 1000}, api.Instr{Op: -1}, api.Instr{Op: math.MinInt}, api.Instr{Op: math.MaxInt})
	return api.Program{Funcs: []api.Func{f}}
}

func TestSignRow(t *testing.T) { // P4301
	var l []api.Event
	for pc := range 31 {
		l = append(l, api.Event{Kind: 2, G: 1, PC: pc})
	}
	is(t, "all ops", "........cxnyw!xekstburz?..--.--", Row(all(), l, 1))
	for _, e := range []api.Event{{Kind: 2, PC: -1}, {Kind: 2, Func: 1}, {Kind: 2, Func: -1}, {Kind: 0}, {Kind: 3}, {Kind: -1, PC: 17}, {Kind: 2, PC: math.MinInt}} {
		is(t, fmt.Sprint(e), "-", string(Sign(all(), e)))
	}
	is(t, "Begin", "( (", string(Sign(all(), api.Event{Kind: 1, PC: 17})), string(Sign(api.Program{}, api.Event{Kind: 1, PC: 99})))
	l = []api.Event{{Kind: 1, G: 1, PC: 17}, {Kind: 2, G: 2}, {Kind: 2, G: 1, PC: 17}, {Kind: 2, G: -7, PC: 14}}
	is(t, "Row", "( s | .  |   x|    |", Row(all(), l, 1)+"|"+Row(all(), l, 2)+"|"+Row(all(), l, -7)+"|"+Row(all(), l, 9)+"|")
	is(t, "none", "", Row(all(), nil, 1))
}

func rows(l []api.Event, width int) string {
	all, f := Rows(all(), l, width)
	return fmt.Sprint(strings.Join(all, "/"), int(f))
}

func TestRows(t *testing.T) { // P4302
	l := []api.Event{{Kind: 1, G: 1, PC: 17}, {Kind: 2, G: 3}, {Kind: 2, G: 1, PC: 17}}
	is(t, "Rows", "1:( /2:  /3: ./1:s/2: /3: 0", rows(l, 2))
	is(t, "wide", "1:( s/2:   /3: . 0", rows(l, 200))
	is(t, "none", "0", rows(nil, 5))
	for _, width := range []int{0, -1, 201, math.MinInt, math.MaxInt} {
		is(t, fmt.Sprint("width ", width), "1 1", rows(l, width), rows(nil, width))
	}
	for _, g := range []int{0, 65, -1, math.MaxInt} {
		is(t, fmt.Sprint("goroutine ", g), "1", rows(append(l[:2:2], api.Event{Kind: 2, G: g}), 2))
	}
	is(t, "the last one", "64", strings.Count(rows([]api.Event{{Kind: 2, G: 64}}, 1), ":"))
}

func TestHeadGaps(t *testing.T) { // P4303
	is(t, "example", "| | |.|||.| .", Head(5, 2)+"."+Head(3, 1)+"."+Head(2, 200)+"."+Head(0, 1))
	is(t, "most", "1000 5", len(Head(1000, 200)), strings.Count(Head(1000, 200), "|"))
	is(t, "none", "    ", Head(-1, 2), Head(1001, 2), Head(5, 0), Head(5, 201), Head(math.MaxInt, math.MinInt))
	l := []api.Event{{G: 2}, {G: 3}, {G: 1}, {G: 1}, {G: 2}, {G: 1}, {G: 2}}
	is(t, "Gaps", "[2 0 1] [0 3 1] [1] []", Gaps(l, 1), Gaps(l, 2), Gaps(l, 3), Gaps(l, 4))
}

func TestLaw(t *testing.T) { // P4304
	p, _ := gen.Rounds(3)
	m, _ := machine.New(p, api.Conf{Procs: 2, Gs: 4, Ms: 3})
	l := m.Run(script.Robin(500, 2))
	for _, width := range []int{1, 7, 50, 200} {
		all, f := Rows(p, l, width)
		if f != api.OK || len(all)%4 != 0 {
			t.Fatal(f, len(all))
		}
		column := 0
		for at := 0; at < len(all); at += 4 {
			for i := 2; i < len(all[at]); i++ {
				signs := 0
				for _, row := range all[at : at+4] {
					if row[i] != ' ' {
						signs++
					}
				}
				if column++; signs != 1 {
					t.Fatal("signs", signs, all[at:at+4])
				}
			}
		}
		if column != len(l) {
			t.Fatal("columns", column, len(l))
		}
	}
}
