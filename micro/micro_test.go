package micro_test

import (
	"fmt"
	"math"
	"slices"
	"testing"

	"escapement/cells"
	. "escapement/micro"
)

func is(t *testing.T, what string, want string, got ...any) {
	t.Helper()
	if s := fmt.Sprintln(got...); s != want+"\n" {
		t.Errorf("%s: %s, not %s", what, s, want)
	}
}

// memory: cells with head, tail, next and a row.
func memory(l ...int64) *cells.Cells {
	c := cells.New(len(l))
	for i, v := range l {
		c.Store(i, v)
	}
	return c
}

func all(c *cells.Cells) []int64 {
	var l []int64
	for i := range c.Len() {
		l = append(l, c.Load(i))
	}
	return l
}

// end: a task goes on till it is done.
func end(k *Task) string {
	for n := 0; k.Step(); n++ {
		if n > 1000 {
			return "no end"
		}
	}
	return fmt.Sprintf("%v%d", k.Got(), k.Steps())
}

func TestNew(t *testing.T) { // P1401
	is(t, "nil", "true true true true", New(nil, 2) == nil, New(cells.New(4), 2) == nil, New(cells.New(5), 2) == nil == false, New(cells.New(66), 64) == nil)
	for _, size := range []int{0, 1, 3, 6, 65, 128, -2, math.MaxInt, math.MinInt} {
		is(t, fmt.Sprint("size ", size), "true", New(cells.New(4096), size) == nil)
	}
	c := memory(1, 2, 3, 4, 5)
	before := c.Count()
	New(c, 2)
	is(t, "as they are", fmt.Sprint(before), c.Count())
	is(t, "all sizes", "false false false", New(cells.New(67), 64) == nil, New(cells.New(100), 16) == nil, New(cells.New(7), 4) == nil)
}

func TestStep(t *testing.T) { // P1402
	c := memory(0, 0, 0, 0, 0)
	k := New(c, 2).Put(5, false)
	before := c.Count()
	for n := range 4 {
		is(t, "not done", "false [] true", k.Done(), k.Got(), k.Step())
		is(t, "one access each", fmt.Sprint(n+1, n+1), k.Steps(), c.Count()-before)
	}
	is(t, "done", "true false 4", k.Done(), k.Step(), k.Steps())
	is(t, "and no more accesses", "4", c.Count()-before)
	g := New(c, 2).Get()
	end(g)
	g.Got()[0] = 8
	is(t, "Got is new memory", "[5]", g.Got())
}

func TestNil(t *testing.T) { // P1402
	var r *Ring
	var k *Task
	is(t, "nil", "true true true true false [] 0", r.Put(1, true) == nil, r.Get() == nil, r.Grab() == nil, k.Done(), k.Step(), k.Got(), k.Steps())
}

func TestPut(t *testing.T) { // P1403
	c := memory(0, 0, 0, 0, 0)
	r := New(c, 2)
	is(t, "below 1", "[]0 []0", end(r.Put(0, false)), end(r.Put(-4, true)))
	is(t, "row", "[]4 []4 [0 2 0 5 6]", end(r.Put(5, false)), end(r.Put(6, false)), all(c))
	is(t, "full", "[5 7]4 [1 2 0 5 6]", end(r.Put(7, false)), all(c))
	is(t, "next", "[]2 [1 2 8 5 6]", end(r.Put(8, true)), all(c))
	is(t, "next, and the one that was", "[]6 [1 3 9 8 6]", end(r.Put(9, true)), all(c))
	c = memory(1<<32-1, 1<<32-1, 0, 0, 0)
	is(t, "round", "[]4 [4294967295 0 0 0 5]", end(New(c, 2).Put(5, false)), all(c))
	c = memory(0, 4, 0, 1, 2, 3, 4)
	k := New(c, 4).Put(5, false)
	for range 4 {
		k.Step()
	}
	c.Store(0, 1)
	is(t, "head has gone on: again from (c)", "[]9 [1 5 0 5 2 3 4]", end(k), all(c))
	c = memory(0, 0, 0, 0, 0)
	k = New(c, 2).Put(5, true)
	k.Step()
	c.Store(2, 3)
	is(t, "next has changed: again from (a)", "[]8 [0 1 5 3 0]", end(k), all(c))
}

func TestGet(t *testing.T) { // P1404
	c := memory(3, 5, 9, 1, 2, 3, 4)
	r := New(c, 4)
	is(t, "next", "[9]2", end(r.Get()))
	is(t, "row", "[4]5 [1]5 []3", end(r.Get()), end(r.Get()), end(r.Get()))
	is(t, "head", "[5 5 0 1 2 3 4]", all(c))
	c = memory(0, 1, 9, 5, 6)
	k := New(c, 2).Get()
	k.Step()
	c.Store(2, 8)
	is(t, "next has changed: the row", "[5]6 [1 1 8 5 6]", end(k), all(c))
	c = memory(0, 2, 0, 5, 6)
	k = New(c, 2).Get()
	for range 4 {
		k.Step()
	}
	c.Store(0, 1)
	is(t, "head has gone on: again from (c)", "[6]9", end(k))
	c = memory(1<<32-1, 0, 0, 5, 6)
	is(t, "round", "[6]5 [0 0 0 5 6]", end(New(c, 2).Get()), all(c))
}

func TestGrab(t *testing.T) { // P1405
	c := memory(1, 4, 9, 1, 2, 3, 4)
	r := New(c, 4)
	is(t, "halves", "[2 3]5 [4]4 [9]4 []3", end(r.Grab()), end(r.Grab()), end(r.Grab()), end(r.Grab()))
	is(t, "cells", "[4 4 0 1 2 3 4]", all(c))
	c = memory(0, 2, 0, 5, 6)
	k := New(c, 2).Grab()
	k.Step()
	c.Store(1, 4)
	k.Step()
	c.Store(1, 2)
	is(t, "too many: again from (a)", "[5]6", end(k))
	c = memory(0, 2, 0, 5, 6)
	k = New(c, 2).Grab()
	for range 3 {
		k.Step()
	}
	c.Store(0, 1)
	is(t, "head has gone on: again from (a)", "[6]8", end(k))
	c = memory(0, 0, 7, 5, 6)
	k = New(c, 2).Grab()
	for range 3 {
		k.Step()
	}
	c.Store(2, 8)
	is(t, "next has changed: again from (a)", "[8]8 [0 0 0 5 6]", end(k), all(c))
}

func TestLaw(t *testing.T) { // P1406
	seed := uint64(8)
	below := func(n int) int {
		seed = seed*6364136223846793005 + 1442695040888963407
		return int(seed >> 33 % uint64(n))
	}
	for round := range 60 {
		size := 2 << (round % 4)
		c := cells.New(size + 3)
		at := int64(1)<<32 - int64(below(4))
		c.Store(0, at&(1<<32-1))
		c.Store(1, at&(1<<32-1))
		r := New(c, size)
		tasks := make([]*Task, 4)
		var out []int64
		put := int64(0)
		start := func(k int) *Task {
			if k > 0 {
				return r.Grab()
			}
			if below(3) == 0 {
				return r.Get()
			}
			put++
			return r.Put(put, below(2) == 0)
		}
		for n := 0; n < 600 || !tasks[0].Done(); n++ {
			k := below(4)
			if tasks[k].Done() {
				out = append(out, tasks[k].Got()...)
				tasks[k] = start(k)
			}
			tasks[k].Step()
		}
		for _, k := range tasks {
			for k.Step() {
			}
			out = append(out, k.Got()...)
		}
		for k := r.Get(); ; k = r.Get() {
			for k.Step() {
			}
			if len(k.Got()) == 0 {
				break
			}
			out = append(out, k.Got()...)
		}
		slices.Sort(out)
		if int64(len(out)) != put {
			t.Fatal("lost", len(out), put)
		}
		for i, g := range out {
			if g != int64(i+1) {
				t.Fatal("not just once", g)
			}
		}
	}
}
