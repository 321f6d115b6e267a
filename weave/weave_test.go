package weave_test

import (
	"fmt"
	"math"
	"slices"
	"testing"

	"escapement/api"
	"escapement/cells"
	. "escapement/weave"
)

func is(t *testing.T, what string, want string, got ...any) {
	t.Helper()
	if s := fmt.Sprintln(got...); s != want+"\n" {
		t.Errorf("%s: %s, not %s", what, s, want)
	}
}

func zeros(n int) []int { return make([]int, n) }

func TestRun(t *testing.T) { // P1501
	jobs := []Job{{0, 1}, {0, 2}, {2, 0}}
	r, f := Run(2, 0, jobs, 0, 0, zeros(13))
	is(t, "example", "{[[1]] [2] [3] 13 false} 0", r, f)
	r, f = Run(2, 0, jobs, 0, 0, zeros(12))
	is(t, "in the midst", "{[[]] [1 2] [2] 12 true} 0", r, f)
	r, f = Run(2, 0, jobs, 0, 0, zeros(100))
	is(t, "nothing more to do", "13 0", r.Steps, f)
	r, f = Run(2, 1<<32-1, []Job{{1, 1}, {1, 2}, {0, 0}, {0, -3}, {1, 3}}, 1, 2, append(zeros(14), 1, 3, -1, 5, 1))
	is(t, "a thief, round, no tasks", "{[[] [1]] [3 2] [3 1] 19 false} 0", r, f)
	r, f = Run(2, 7, []Job{{0, 1}, {0, 2}, {0, 3}}, 0, 0, zeros(12))
	is(t, "told to go", "{[[1 3]] [2] [3] 12 false} 0", r, f)
	r, f = Run(64, 7, nil, 8, 100, nil)
	is(t, "nothing is picked", "9 [] [0 0 0 0 0 0 0 0 0] 0 false 0", len(r.Got), r.Left, r.Done, r.Steps, r.Under, f)
	r, f = Run(2, 0, []Job{{0, 0}}, 0, 0, zeros(3))
	is(t, "no task at all", "{[[]] [] [0] 0 false} 0", r, f)
}

func TestRunFaults(t *testing.T) { // P1501
	many := make([]Job, 1001)
	picks := zeros(api.MaxSteps + 1)
	for i, c := range []struct {
		size            int
		owner           []Job
		thieves, rounds int
		picks           []int
		want            api.Fault
	}{
		{3, nil, 0, 0, nil, 1}, {0, nil, 0, 0, nil, 1}, {1, nil, 0, 0, nil, 1}, {128, nil, 0, 0, nil, 1}, {math.MinInt, nil, 0, 0, nil, 1}, {2, nil, -1, 0, nil, 1}, {2, nil, 9, 0, nil, 1}, {2, nil, 0, -1, nil, 1}, {2, nil, 0, 101, nil, 1},
		{2, many, 0, 0, nil, 1}, {2, many[1:], 0, 0, nil, 0}, {2, []Job{{3, 1}}, 0, 0, nil, 1}, {2, []Job{{-1, 1}}, 0, 0, picks, 1}, {2, nil, 0, 0, picks, 2}, {2, nil, 0, 0, picks[1:], 0},
	} {
		r, f := Run(c.size, 0, c.owner, c.thieves, c.rounds, c.picks)
		if f != c.want || f != api.OK && (r.Got != nil || r.Done != nil || r.Steps != 0) {
			t.Error(i, f, r)
		}
	}
}

func memory(l ...int64) *cells.Cells {
	c := cells.New(len(l))
	for i, v := range l {
		c.Store(i, v)
	}
	return c
}

func TestLeft(t *testing.T) { // P1502
	c := memory(4, 6, 9, 1, 2, 3)
	before := c.Count()
	is(t, "of size 3", "[9 2 3]", Left(c, 3))
	is(t, "as it was", fmt.Sprint(before), c.Count())
	is(t, "of size 2", "[9 1 2]", Left(c, 2))
	is(t, "fewer cells", "[] [] [] [] []", Left(c, 4), Left(c, 1), Left(c, math.MaxInt), Left(nil, 2), Left(c, math.MinInt))
	is(t, "more than size", "[9]", Left(memory(0, 3, 9, 1, 2), 2))
	is(t, "behind head", "[]", Left(memory(3, 2, 0, 1, 2), 2))
	is(t, "round by two", "[2 1]", Left(memory(1<<32-1, 1, 0, 1, 2), 2))
	is(t, "as uint32", "[1]", Left(memory(1<<32, 1<<33+1, 0, 1, 2), 2))
}

func TestAll(t *testing.T) { // P1502
	is(t, "All", "[1 2 3 4 5]", All(Result{Got: [][]int64{{1, 2}, nil, {3}}, Left: []int64{4, 5}}))
	is(t, "none", "[]", All(Result{}))
}

func TestFair(t *testing.T) { // P1503
	is(t, "none", "200 800 2200", Fair(nil, 0, 0), Fair(make([]Job, 3), 0, 9), Fair(make([]Job, 2), 4, 2))
	is(t, "no sum that leaves its range", "0 0", Fair(nil, math.MaxInt, math.MaxInt), Fair(nil, 1, math.MaxInt))
	is(t, "below 0", "0 0 0", Fair(make([]Job, 5), -1, 1), Fair(make([]Job, 5), 1, -1), Fair(nil, math.MinInt, math.MinInt))
	for _, size := range []int{2, 8, 64} {
		owner := make([]Job, 60)
		for i := range owner {
			owner[i] = Job{i % 5 % 3, int64(i + 1)}
		}
		var picks []int
		for range min(Fair(owner, 3, 10), api.MaxSteps/4) {
			picks = append(picks, 0, 1, 2, 3)
		}
		r, f := Run(size, 9, owner, 3, 10, picks)
		is(t, "all are done", "[60 10 10 10] false 0", r.Done, r.Under, f)
	}
}

func TestLaw(t *testing.T) { // P1504
	seed := uint64(4)
	below := func(n int) int {
		seed = seed*6364136223846793005 + 1442695040888963407
		return int(seed >> 33 % uint64(n))
	}
	calm := 0
	for round := range 400 {
		var owner []Job
		for range below(30) {
			owner = append(owner, Job{below(3), int64(below(50) - 3)})
		}
		picks := zeros(below(300))
		for i := range picks {
			picks[i] = below(9) - 4
		}
		r, f := Run(2<<(round%6), uint32(below(5)-2), owner, 3, 4, picks)
		if f != api.OK {
			t.Fatal(f)
		}
		if r.Under {
			continue
		}
		calm++
		var puts []int64
		for done := r.Done[0]; done > 0; owner = owner[1:] {
			if owner[0].Kind == 2 {
				done--
			} else if owner[0].G > 0 {
				puts = append(puts, owner[0].G)
				done--
			}
		}
		all := All(r)
		slices.Sort(all)
		slices.Sort(puts)
		if !slices.Equal(all, puts) {
			t.Fatal(all, puts)
		}
	}
	if calm < 50 {
		t.Error("too few", calm)
	}
}
