package spread_test

import (
	"fmt"
	"math"
	"slices"
	"testing"

	. "escapement/spread"
)

func is(t *testing.T, what string, want string, got ...any) {
	t.Helper()
	if s := fmt.Sprintln(got...); s != want+"\n" {
		t.Errorf("%s: %s, not %s", what, s, want)
	}
}

func TestWorld(t *testing.T) { // P2401
	is(t, "example", "{[2] [1]}", World([]int{1, 0, 2}, 0, 1))
	is(t, "want of machines", "{[1 2] [0 4]}", World([]int{0, 1, 9, 5, 1}, 3, 2))
	is(t, "none", "{[] [0 1]} {[] [0 1]} {[] []}", World([]int{1, 1}, -1, 0), World([]int{1, 1}, 2, -5), World(nil, 0, 1))
	is(t, "below 0", "{[1] [0 2]}", World([]int{-1, 1, math.MinInt}, 7, 9))
	is(t, "self alone", "{[] []}", World([]int{4}, 0, math.MaxInt))
}

func TestWake(t *testing.T) { // P2402
	is(t, "Wake", "true true false false false false", Wake(1, 0, 1), Wake(9, -4, 2), Wake(0, 0, 1), Wake(1, 1, 1), Wake(1, 0, 0), Wake(-1, 0, -1))
}

func TestCheck(t *testing.T) { // P2403
	for _, c := range []struct {
		p           Plan
		procs, self int
		want        bool
	}{
		{Plan{[]int{2}, []int{1}}, 3, 0, true}, {Plan{[]int{1}, []int{2}}, 3, 0, true}, {Plan{[]int{0, 2}, []int{1}}, 3, -1, true}, {Plan{[]int{2, 0}, []int{1}}, 3, 9, false},
		{Plan{[]int{2}, nil}, 3, 0, false}, {Plan{[]int{2}, []int{0, 1}}, 3, 0, false}, {Plan{[]int{2}, []int{2}}, 3, 0, false}, {Plan{[]int{3}, []int{1}}, 3, 0, false}, {Plan{[]int{1, 1}, nil}, 3, 0, false}, {Plan{[]int{-1}, []int{1}}, 3, 0, false}, {Plan{[]int{0}, []int{1}}, 3, 0, false},
		{Plan{}, 0, 0, true}, {Plan{}, -4, -4, true}, {Plan{}, 1, 0, true}, {Plan{}, 1, 1, false}, {Plan{}, math.MaxInt, 3, false}, {Plan{[]int{0}, nil}, math.MinInt, 0, false}, {Plan{nil, []int{0, 1}}, 2, math.MinInt, true},
	} {
		is(t, fmt.Sprint(c), fmt.Sprint(c.want), Check(c.p, c.procs, c.self))
	}
}

func TestLaw(t *testing.T) { // P2404
	seed := uint64(12)
	below := func(n int) int {
		seed = seed*6364136223846793005 + 1442695040888963407
		return int(seed >> 33 % uint64(n))
	}
	for range 2000 {
		waits := make([]int, below(9))
		for i := range waits {
			waits[i] = below(4) - 1
		}
		self, machines := below(11)-1, below(6)-1
		p := World(waits, self, machines)
		if !Check(p, len(waits), self) {
			t.Fatal(waits, self, p)
		}
		if slices.ContainsFunc(p.Idle, func(i int) bool { return waits[i] > 0 }) && len(p.Go) < machines {
			t.Fatal("no want of machines", waits, self, machines, p)
		}
	}
}
