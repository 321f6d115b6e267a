package bitmap_test

import (
	"fmt"
	"math"
	"slices"
	"testing"

	"escapement/api"
	. "escapement/bitmap"
)

func is(t *testing.T, what string, want string, got ...any) {
	t.Helper()
	if s := fmt.Sprintln(got...); s != want+"\n" {
		t.Errorf("%s: %s, not %s", what, s, want)
	}
}

func TestNewOf(t *testing.T) { // P501
	is(t, "none", "0 []", New(0).Len(), New(0).Bools())
	is(t, "most", "4096 0", New(api.MaxCells).Len(), New(api.MaxCells).Count())
	for _, n := range []int{-1, api.MaxCells + 1, math.MaxInt, math.MinInt} {
		is(t, fmt.Sprint("New ", n), "true", New(n) == nil)
	}
	is(t, "too many truths", "true", Of(make([]bool, api.MaxCells+1)) == nil)
	is(t, "as many", "4096", Of(make([]bool, api.MaxCells)).Len())
	is(t, "of none", "0 false", Of(nil).Len(), Of(nil) == nil)
	l := []bool{true, false, true}
	m := Of(l)
	is(t, "truths", "[true false true] 3", m.Bools(), m.Len())
	l[1] = true
	m.Bools()[0] = false
	is(t, "its own", "[true false true]", m.Bools())
}

func TestHasSetClear(t *testing.T) { // P502
	m := New(130)
	is(t, "Set", "true false true 1", m.Set(129), m.Set(129), m.Has(129), m.Count())
	is(t, "Clear", "true false false 0", m.Clear(129), m.Clear(129), m.Has(129), m.Count())
	for _, i := range []int{-1, 130, 191, 192, math.MaxInt, math.MinInt} {
		is(t, fmt.Sprint("no ", i), "false false false", m.Has(i), m.Set(i), m.Clear(i))
	}
	is(t, "none was", "0", m.Count())
	m.Set(0)
	m.Set(63)
	m.Set(64)
	is(t, "three", "3 false true true true false", m.Count(), m.Has(1), m.Has(0), m.Has(63), m.Has(64), m.Has(65))
}

func TestNextAll(t *testing.T) { // P503
	m := New(200)
	is(t, "none", "-1 []", m.Next(0), slices.Collect(m.All()))
	for _, i := range []int{0, 5, 64, 199} {
		m.Set(i)
	}
	is(t, "Next", "0 0 0 5 5 64 64 199 199 -1 -1", m.Next(math.MinInt), m.Next(-1), m.Next(0), m.Next(1), m.Next(5), m.Next(6), m.Next(64), m.Next(65), m.Next(199), m.Next(200), m.Next(math.MaxInt))
	is(t, "All", "[0 5 64 199]", slices.Collect(m.All()))
	all := m.All()
	m.Set(7)
	var got []int
	for i := range all {
		got = append(got, i)
		m.Clear(64)
		m.Set(100)
	}
	is(t, "as they are when it begins", "[0 5 7 64 199] [0 5 7 100 199]", got, slices.Collect(all))
	for i := range all {
		is(t, "stops", "0", i)
		break
	}
}

func TestBytes(t *testing.T) { // P504
	is(t, "example", "[0 3 5]", Of([]bool{true, false, true}).Bytes())
	is(t, "none", "[0 0]", New(0).Bytes())
	m := New(4096)
	m.Set(4095)
	b := m.Bytes()
	is(t, "most", "514 16 0 128", len(b), b[0], b[1], b[513])
	n := New(9)
	n.Set(8)
	is(t, "nine", "[0 9 0 1]", n.Bytes())
}

func TestParse(t *testing.T) { // P504
	m, f := Parse([]byte{0, 3, 5})
	is(t, "example", "[true false true] 0", m.Bools(), f)
	m, f = Parse([]byte{0, 0})
	is(t, "none", "0 0", m.Len(), f)
	for _, b := range [][]byte{nil, {}, {0}, {0, 3}, {0, 3, 8}, {0, 3, 128}, {0, 3, 5, 0}, {0, 0, 0}, {0, 9, 1}, {0, 9, 1, 2}, append([]byte{16, 1}, make([]byte, 513)...), {255, 255}} {
		m, f := Parse(b)
		is(t, fmt.Sprint("no bytes ", len(b)), "true 4", m == nil, f)
	}
	m, f = Parse(append([]byte{16, 0}, make([]byte, 512)...))
	is(t, "most", "4096 0", m.Len(), f)
}

func TestNil(t *testing.T) { // P501 to P504
	var m *Map
	is(t, "nil", "0 false false false 0 -1 [] [] true true", m.Len(), m.Has(0), m.Set(0), m.Clear(0), m.Count(), m.Next(0), m.Bools(), m.Bytes(), m.All() != nil, m.Bytes() == nil)
	for range m.All() {
		t.Error("a place of nil")
	}
}

func TestLaw(t *testing.T) { // P505
	for n := range 300 {
		m := New(n)
		for i := range n {
			if i*i%7 == n%7 || i%5 == 0 {
				m.Set(i)
			}
		}
		back, f := Parse(m.Bytes())
		if f != api.OK || !slices.Equal(back.Bools(), m.Bools()) || back.Len() != n {
			t.Fatal("bytes there and back", n)
		}
		if !slices.Equal(Of(m.Bools()).Bytes(), m.Bytes()) {
			t.Fatal("truths there and back", n)
		}
	}
}
