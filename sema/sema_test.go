package sema_test

import (
	"fmt"
	"math"
	"slices"
	"testing"

	"escapement/api"
	. "escapement/sema"
)

func is(t *testing.T, what string, want string, got ...any) {
	t.Helper()
	if s := fmt.Sprintln(got...); s != want+"\n" {
		t.Errorf("%s: %s, not %s", what, s, want)
	}
}

func acquire(s *Sema, g int) string {
	ok, f := s.Acquire(g)
	return fmt.Sprint(ok, " ", int(f))
}

func release(s *Sema, g int) string {
	next, f := s.Release(g)
	return fmt.Sprint(next, " ", int(f))
}

func TestNew(t *testing.T) { // P2201
	s := New()
	is(t, "nobody", "0 [] -1 -1", s.Owner(), s.Waits(), s.Ahead(1), s.Ahead(0))
	for g := 1; g < 5; g++ {
		s.Acquire(g)
	}
	is(t, "in order", "1 [2 3 4] 0 2 -1 -1", s.Owner(), s.Waits(), s.Ahead(2), s.Ahead(4), s.Ahead(1), s.Ahead(9))
	s.Waits()[0] = 9
	is(t, "new memory", "[2 3 4]", s.Waits())
}

func TestAcquire(t *testing.T) { // P2202
	s := New()
	for _, g := range []int{0, -1, math.MinInt} {
		is(t, fmt.Sprint("no ", g), "false 1 0", acquire(s, g), s.Owner())
	}
	is(t, "nobody", "true 0 true 0", acquire(s, 7), acquire(s, 7))
	is(t, "waits, once", "false 0 false 0 false 0 [8 9]", acquire(s, 8), acquire(s, 9), acquire(s, 8), s.Waits())
}

func TestRelease(t *testing.T) { // P2203
	s := New()
	is(t, "nobody owns it", "0 9 0 9 0 9", release(s, 1), release(s, 0), release(s, -1))
	s.Acquire(1)
	s.Acquire(2)
	s.Acquire(3)
	is(t, "not its", "0 9 0 9 1", release(s, 2), release(s, 0), s.Owner())
	is(t, "example", "2 0 2 [3]", release(s, 1), s.Owner(), s.Waits())
	is(t, "to the last", "3 0 0 0 0 []", release(s, 2), release(s, 3), s.Owner(), s.Waits())
}

func TestDrop(t *testing.T) { // P2204
	s := New()
	for g := 1; g < 6; g++ {
		s.Acquire(g)
	}
	is(t, "Drop", "true true false false false [2 5]", s.Drop(3), s.Drop(4), s.Drop(4), s.Drop(1), s.Drop(0), s.Waits())
	is(t, "behind all", "false 0 [2 5 3]", acquire(s, 3), s.Waits())
}

func TestNil(t *testing.T) { // P2201 to P2204
	var s *Sema
	is(t, "nil", "0 false 1 0 1 false [] -1", s.Owner(), acquire(s, 1), release(s, 1), s.Drop(1), s.Waits(), s.Ahead(1))
}

func TestLaw(t *testing.T) { // P2205
	seed := uint64(7)
	below := func(n int) int {
		seed = seed*6364136223846793005 + 1442695040888963407
		return int(seed >> 33 % uint64(n))
	}
	s := New()
	var row []int // who owns it, and who waits
	for range 5000 {
		g := 1 + below(6)
		switch below(3) {
		case 0:
			if !slices.Contains(row, g) {
				row = append(row, g)
			}
			ok, _ := s.Acquire(g)
			if ok != (row[0] == g) {
				t.Fatal("owns?", g, row)
			}
		case 1:
			if _, f := s.Release(g); f == api.OK {
				row = row[1:]
			}
		case 2:
			if at := slices.Index(row, g); s.Drop(g) != (at > 0) {
				t.Fatal("waits?", g, row)
			} else if at > 0 {
				row = slices.Delete(row, at, at+1)
			}
		}
		if all := append([]int{s.Owner()}, s.Waits()...); len(row) > 0 && !slices.Equal(all, row) || len(row) == 0 && s.Owner() != 0 {
			t.Fatal(all, row)
		}
	}
}
