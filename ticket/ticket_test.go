package ticket_test

import (
	"fmt"
	"math"
	"testing"

	"escapement/api"
	"escapement/cells"
	. "escapement/ticket"
)

func is(t *testing.T, what string, want string, got ...any) {
	t.Helper()
	if s := fmt.Sprintln(got...); s != want+"\n" {
		t.Errorf("%s: %s, not %s", what, s, want)
	}
}

func take(l *Lock) string {
	n, f := l.Take()
	return fmt.Sprint(n, " ", f)
}

func mine(l *Lock, n int64) string {
	ok, f := l.Mine(n)
	return fmt.Sprint(ok, f)
}

func TestNew(t *testing.T) { // P401
	c := cells.New(3)
	c.Store(1, 8)
	for _, at := range []int{-1, 2, 3, math.MaxInt, math.MinInt} {
		is(t, fmt.Sprint("at ", at), "true", New(c, at) == nil)
	}
	is(t, "nil, none, one", "true true true", New(nil, 0) == nil, New(cells.New(0), 0) == nil, New(cells.New(1), 0) == nil)
	is(t, "the last ones", "false", New(c, 1) == nil)
	is(t, "as they are", "0 8 0 1", c.Copy().Load(0), c.Copy().Load(1), c.Copy().Load(2), c.Count())
}

func TestTakeLeave(t *testing.T) { // P402
	c := cells.New(4)
	l := New(c, 1)
	is(t, "two take", "0 0 1 0", take(l), take(l))
	is(t, "two accesses", "2", c.Count())
	is(t, "whose turn", "true 0 false 0 false 0", mine(l, 0), mine(l, 1), mine(l, -1))
	is(t, "three more", "5", c.Count())
	is(t, "not its turn", "9 6", l.Leave(1), c.Count())
	is(t, "leaves", "0 8", l.Leave(0), c.Count())
	is(t, "the next one's", "false 0 true 0", mine(l, 0), mine(l, 1))
	is(t, "cells", "0 2 1 0", c.Load(0), c.Load(1), c.Load(2), c.Load(3))
}

func TestRound(t *testing.T) { // P402, P403
	c := cells.New(2)
	c.Store(0, math.MaxInt64)
	c.Store(1, math.MaxInt64)
	l := New(c, 0)
	is(t, "takes", "9223372036854775807 0 -9223372036854775808 0", take(l), take(l))
	is(t, "waits", "2", l.Waits())
	is(t, "leaves", "0 0", l.Leave(math.MaxInt64), l.Leave(math.MinInt64))
	is(t, "nobody waits", "0", l.Waits())
	is(t, "nobody's ticket", "0 -1", l.Leave(math.MinInt64+1), l.Waits())
}

func TestWaits(t *testing.T) { // P403
	c := cells.New(2)
	l := New(c, 0)
	is(t, "at first", "0 2", l.Waits(), c.Count())
	l.Take()
	l.Take()
	l.Leave(0)
	is(t, "one", "1", l.Waits())
}

func TestNil(t *testing.T) { // P402, P403
	var l *Lock
	is(t, "nil", "0 1 false 1 1 0", take(l), mine(l, 0), l.Leave(0), l.Waits())
}

func TestLaw(t *testing.T) { // P404
	l := New(cells.New(2), 0)
	taken, turn := int64(0), int64(0)
	for i := range 3000 {
		if i*i%5 < 2 {
			if n, f := l.Take(); n != taken || f != api.OK {
				t.Fatal("ticket", n, f)
			}
			taken++
		} else if turn < taken && l.Leave(turn) == api.OK {
			turn++
		}
		turns := 0
		for n := turn - 2; n < taken+2; n++ {
			if ok, _ := l.Mine(n); ok {
				turns++
				if n != turn {
					t.Fatal("out of order")
				}
			}
		}
		if turns != 1 || l.Waits() != taken-turn {
			t.Fatal("turns", turns, l.Waits())
		}
	}
}
