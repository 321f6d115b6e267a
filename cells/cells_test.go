package cells_test

import (
	"fmt"
	"math"
	"testing"

	"escapement/api"
	. "escapement/cells"
)

func is(t *testing.T, what string, got, want any) {
	t.Helper()
	if fmt.Sprint(got) != fmt.Sprint(want) {
		t.Errorf("%s: %v, not %v", what, got, want)
	}
}

func TestNew(t *testing.T) { // P201
	is(t, "none", New(0).Len(), 0)
	is(t, "none is there", New(0) != nil, true)
	is(t, "most", New(api.MaxCells).Len(), api.MaxCells)
	for _, n := range []int{-1, api.MaxCells + 1, math.MaxInt, math.MinInt} {
		is(t, fmt.Sprint("New ", n), New(n) == nil, true)
	}
	c := New(3)
	for i := range 3 {
		is(t, "at first", c.Load(i), 0)
	}
}

func TestCount(t *testing.T) { // P201
	c := New(2)
	c.Load(0)
	c.Store(1, 4)
	c.Cas(0, 9, 9)
	c.Cas(0, 0, 1)
	c.Add(0, 1)
	c.Swap(0, 1)
	c.Mask(0, 1, 1)
	is(t, "seven", c.Count(), 7)
	for _, i := range []int{-1, 2, math.MaxInt, math.MinInt} {
		c.Load(i)
		c.Store(i, 1)
		c.Cas(i, 0, 1)
		c.Add(i, 1)
		c.Swap(i, 1)
		c.Mask(i, 1, 1)
	}
	is(t, "cells that are none", c.Count(), 7)
	c.Len()
	c.Copy()
	is(t, "no access", c.Count(), 7)
}

func TestCopy(t *testing.T) { // P201
	c := New(2)
	c.Store(0, 5)
	d := c.Copy()
	is(t, "alike", fmt.Sprint(d.Len(), d.Count(), d.Load(0), d.Load(1)), "2 1 5 0")
	d.Store(0, 6)
	c.Store(1, 7)
	c.Store(1, 8)
	is(t, "own ways", fmt.Sprint(c.Load(0), c.Load(1), d.Load(0), d.Load(1)), "5 8 6 0")
	is(t, "own counts", fmt.Sprint(c.Count(), d.Count()), "5 6")
}

func TestAccess(t *testing.T) { // P202
	c := New(1)
	is(t, "Cas", c.Cas(0, 0, 5), true)
	is(t, "Cas of another", c.Cas(0, 0, 6), false)
	is(t, "Load", c.Load(0), 5)
	is(t, "Add", c.Add(0, -7), -2)
	is(t, "Swap", c.Swap(0, 12), -2)
	is(t, "Mask was", c.Mask(0, 4, 3), 12)
	is(t, "Mask is", c.Load(0), 11)
	is(t, "set goes last", c.Mask(0, 3, 1), 11)
	is(t, "set went last", c.Load(0), 9)
	c.Store(0, math.MaxInt64)
	is(t, "round", c.Add(0, 1), int64(math.MinInt64))
	is(t, "round back", c.Add(0, -1), int64(math.MaxInt64))
	is(t, "none", fmt.Sprint(c.Load(1), c.Cas(1, 0, 0), c.Add(1, 3), c.Swap(-1, 3), c.Mask(1, 0, 1)), "0 false 0 0 0")
}

func TestNil(t *testing.T) { // P201, P202
	var c *Cells
	c.Store(0, 1)
	is(t, "nil", fmt.Sprint(c.Len(), c.Load(0), c.Cas(0, 0, 0), c.Add(0, 1), c.Swap(0, 1), c.Mask(0, 1, 1), c.Count(), c.Copy() == nil), "0 0 false 0 0 0 0 true")
}

func TestLaw(t *testing.T) { // P203
	c := New(5)
	for i := range 5 {
		c.Store(i, int64(i))
	}
	c.Add(2, 100)
	c.Swap(2, 7)
	c.Mask(2, -1, 3)
	c.Cas(2, 3, 50)
	is(t, "others", fmt.Sprint(c.Load(0), c.Load(1), c.Load(2), c.Load(3), c.Load(4)), "0 1 50 3 4")
}
