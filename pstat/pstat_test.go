package pstat_test

import (
	"fmt"
	"math"
	"testing"

	"escapement/api"
	. "escapement/pstat"
)

func is(t *testing.T, what string, want string, got ...any) {
	t.Helper()
	if s := fmt.Sprintln(got...); s != want+"\n" {
		t.Errorf("%s: %s, not %s", what, s, want)
	}
}

// all: each processor's status, and who has it.
func all(t *Table) string {
	s := ""
	for p := range t.Len() + t.Count(api.PDead) {
		s += fmt.Sprint(" ", t.Get(p), ":", t.Who(p))
	}
	return s
}

func TestNew(t *testing.T) { // P1901
	for _, n := range []int{0, -1, 257, math.MaxInt, math.MinInt} {
		is(t, fmt.Sprint("New ", n), "true", New(n) == nil)
	}
	s := New(3)
	is(t, "all Idle", "3  0:-1 0:-1 0:-1 3 0 0", s.Len(), all(s), s.Count(api.PIdle), s.Count(api.PRunning), s.Count(9))
	is(t, "none", "4 -1 4 -1", s.Get(3), s.Who(3), s.Get(-1), s.Who(math.MinInt))
	is(t, "most", "256", New(256).Len())
}

func TestTakeRelease(t *testing.T) { // P1902
	s := New(2)
	is(t, "Take", "0  0:-1 1:63", int(s.Take(1, 63)), all(s))
	is(t, "not Idle", "9 9", int(s.Take(1, 63)), int(s.Take(1, 2)))
	is(t, "no such", "8 8 2 2 8", int(s.Take(2, 0)), int(s.Take(-1, 0)), int(s.Take(0, 64)), int(s.Take(1, -1)), int(s.Take(2, -1)))
	is(t, "Release", "0 9 8  0:-1 0:-1", int(s.Release(1)), int(s.Release(1)), int(s.Release(5)), all(s))
}

func TestEnterLeave(t *testing.T) { // P1903
	s := New(2)
	s.Take(0, 3)
	is(t, "Enter", "0 9 9 8  2:3 0:-1", int(s.Enter(0)), int(s.Enter(0)), int(s.Enter(1)), int(s.Enter(2)), all(s))
	is(t, "Release of a Syscall", "9", int(s.Release(0)))
	is(t, "Leave of another", "9 2 2 8", int(s.Leave(0, 4)), int(s.Leave(0, -1)), int(s.Leave(0, 64)), int(s.Leave(2, 64)))
	is(t, "Leave", "0 9  1:3 0:-1", int(s.Leave(0, 3)), int(s.Leave(0, 3)), all(s))
}

func TestStopGo(t *testing.T) { // P1904
	s := New(4)
	s.Take(1, 1)
	s.Take(2, 2)
	s.Enter(2)
	is(t, "Stop", "0 0 0 0 9 8  3:-1 3:1 3:-1 3:-1", int(s.Stop(0)), int(s.Stop(1)), int(s.Stop(2)), int(s.Stop(3)), int(s.Stop(1)), int(s.Stop(4)), all(s))
	is(t, "Go", "0 0 0 9 8  0:-1 1:1 0:-1 3:-1", int(s.Go(0)), int(s.Go(1)), int(s.Go(2)), int(s.Go(2)), int(s.Go(4)), all(s))
	e := New(1)
	e.Take(0, 3)
	e.Enter(0)
	e.Stop(0)
	is(t, "example", " 3:-1", all(e))
	is(t, "what is Stopped", "9 9 9 9", int(e.Take(0, 1)), int(e.Enter(0)), int(e.Leave(0, 3)), int(e.Release(0)))
}

func TestResize(t *testing.T) { // P1905
	s := New(3)
	s.Take(1, 5)
	s.Stop(0)
	s.Stop(1)
	is(t, "one is not Stopped", "9 2 2 2", int(s.Resize(2)), int(s.Resize(0)), int(s.Resize(257)), int(s.Resize(math.MinInt)))
	s.Stop(2)
	is(t, "fewer", "0 1  3:-1 4:-1 4:-1 2", int(s.Resize(1)), s.Len(), all(s), s.Count(api.PDead))
	is(t, "Dead", "9 9 9 9 9", int(s.Take(1, 1)), int(s.Stop(1)), int(s.Go(1)), int(s.Enter(1)), int(s.Release(1)))
	is(t, "more", "0 4  3:-1 3:-1 3:-1 3:-1", int(s.Resize(4)), s.Len(), all(s))
	s = New(2)
	s.Take(0, 7)
	s.Stop(0)
	s.Stop(1)
	is(t, "who has one that stays", "0  3:7 4:-1", int(s.Resize(1)), all(s))
	s.Go(0)
	is(t, "the Dead need not be Stopped", "9", int(s.Resize(2)))
	s.Stop(0)
	is(t, "again", "0  3:7 3:-1", int(s.Resize(2)), all(s))
	is(t, "most", "0 256", int(s.Resize(256)), s.Len())
}

func TestNil(t *testing.T) { // P1901 to P1905
	var s *Table
	is(t, "nil", "0 0 -1 1 1 1 1 1 1 1 0", s.Len(), s.Get(0), s.Who(0), int(s.Take(0, 0)), int(s.Enter(0)), int(s.Leave(0, 0)), int(s.Release(0)), int(s.Stop(0)), int(s.Go(0)), int(s.Resize(1)), s.Count(0))
	is(t, "nil, ahead of Range", "1 1", int(s.Take(0, -1)), int(s.Resize(0)))
}

// proc: a processor, and who has it.
type proc struct{ status, m int }

func TestLaw(t *testing.T) { // P1906
	seed := uint64(6)
	below := func(n int) int {
		seed = seed*6364136223846793005 + 1442695040888963407
		return int(seed >> 33 % uint64(n))
	}
	s := New(4)
	for range 5000 {
		p, m := below(6), below(4)
		had := false
		for q := range 6 {
			had = had || s.Who(q) == m
		}
		var before, after [6]proc
		for q := range 6 {
			before[q] = proc{s.Get(q), s.Who(q)}
		}
		switch below(6) {
		case 0:
			if !had {
				s.Take(p, m)
			}
		case 1:
			s.Enter(p)
		case 2:
			s.Leave(p, m)
		case 3:
			s.Release(p)
		case 4:
			s.Stop(p)
		case 5:
			s.Go(p)
		}
		many := map[int]int{}
		for q := range 6 {
			after[q] = proc{s.Get(q), s.Who(q)}
			if q != p && after[q] != before[q] {
				t.Fatal("another one changed")
			}
			if many[after[q].m]++; after[q].m >= 0 && many[after[q].m] > 1 {
				t.Fatal("a machine has two")
			}
			if held := after[q].m >= 0; after[q].status == api.PIdle && held || (after[q].status == api.PRunning || after[q].status == api.PSyscall) && !held {
				t.Fatal("had by whom", after[q])
			}
		}
	}
}
