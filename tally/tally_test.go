package tally_test

import (
	"fmt"
	"math"
	"testing"

	"escapement/api"
	. "escapement/tally"
)

func is(t *testing.T, what string, want string, got ...any) {
	t.Helper()
	if s := fmt.Sprintln(got...); s != want+"\n" {
		t.Errorf("%s: %s, not %s", what, s, want)
	}
}

var p = api.Program{Funcs: []api.Func{{Code: []api.Instr{{Op: api.OpEmit}, {Op: api.OpNop}, {Op: 77}, {Op: -3}, {Op: api.OpSelf}, {Op: 24}}}}}

// events: each of a kind, a goroutine, and a place.
func events(l ...[3]int) []api.Event {
	var all []api.Event
	for _, e := range l {
		all = append(all, api.Event{Kind: e[0], G: e[1], PC: e[2]})
	}
	return all
}

func most(l []api.Event) string {
	g, ok := Most(l)
	return fmt.Sprint(g, ok)
}

func TestRows(t *testing.T) { // P3401
	is(t, "example", "[{1 1 1 1 1}]", Rows(p, events([3]int{1, 1, 0}, [3]int{2, 1, 0})))
	l := events([3]int{2, 7, 1}, [3]int{1, -4, 0}, [3]int{2, 7, 0}, [3]int{2, 3, 9}, [3]int{3, 7, 0}, [3]int{9, 5, 0}, [3]int{2, math.MinInt, 0})
	is(t, "G rising", fmt.Sprint([]Row{{math.MinInt, 0, 1, 1, 6}, {-4, 1, 0, 0, 1}, {3, 0, 1, 0, 3}, {5, 0, 0, 0, 5}, {7, 0, 2, 1, 4}}), Rows(p, l))
	is(t, "none", "[] 0", Rows(p, nil), len(Rows(api.Program{}, nil)))
}

func TestOpsSumSwitchesMost(t *testing.T) { // P3402
	l := events([3]int{2, 1, 0}, [3]int{2, 1, 1}, [3]int{2, 2, 2}, [3]int{2, 2, 3}, [3]int{2, 2, 4}, [3]int{1, 2, 0}, [3]int{2, 1, 5}, [3]int{2, 3, 1})
	is(t, "each op", "24 1 2 1", len(Ops(p, l)), Ops(p, l)[api.OpEmit], Ops(p, l)[api.OpNop], Ops(p, l)[api.OpSelf])
	is(t, "Sum", "7 2 1 0 0 7 1", Sum(l, 0, 8), Sum(l, 0, 2), Sum(l, 4, 6), Sum(l, 5, 6), Sum(l, 6, 2), Sum(l, math.MinInt, math.MaxInt), Sum(l, 7, 9))
	is(t, "Switches", "3 0 0", Switches(l), Switches(l[:2]), Switches(nil))
	is(t, "Most", "1 true 0 false 0 false 2 true", most(l), most(nil), most(events([3]int{1, 1, 0})), most(l[2:]))
	is(t, "the least of several", "-5 true", most(events([3]int{2, 4, 0}, [3]int{2, -5, 0}, [3]int{2, 9, 0})))
}

func TestText(t *testing.T) { // P3403
	is(t, "Text", "-4 1 0 0 0\n3 0 2 1 2\n ", Text(p, events([3]int{1, -4, 0}, [3]int{2, 3, 0}, [3]int{2, 3, 1})), Text(p, nil))
}

func TestLaw(t *testing.T) { // P3404
	seed := uint64(5)
	below := func(n int) int {
		seed = seed*6364136223846793005 + 1442695040888963407
		return int(seed >> 33 % uint64(n))
	}
	q := api.Program{Funcs: []api.Func{{Code: []api.Instr{{Op: 0}, {Op: 15}, {Op: 23}, {Op: 14}}}}}
	for range 200 {
		var l []api.Event
		for range below(60) {
			l = append(l, api.Event{Kind: 1 + below(2), G: 1 + below(5), PC: below(4)})
		}
		rows, ops := 0, 0
		for _, r := range Rows(q, l) {
			rows += r.Commits
		}
		for _, n := range Ops(q, l) {
			ops += n
		}
		if all := Sum(l, 0, len(l)); rows != all || ops != all {
			t.Fatal(rows, ops, all)
		}
	}
}
