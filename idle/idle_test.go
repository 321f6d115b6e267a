package idle_test

import (
	"fmt"
	"math"
	"slices"
	"testing"

	. "escapement/idle"
)

func is(t *testing.T, what string, want string, got ...any) {
	t.Helper()
	if s := fmt.Sprintln(got...); s != want+"\n" {
		t.Errorf("%s: %s, not %s", what, s, want)
	}
}

func two(id int, ok bool) string { return fmt.Sprint(id, ok) }

func TestNew(t *testing.T) { // P2001
	for _, n := range []int{-1, 1025, math.MaxInt, math.MinInt} {
		is(t, fmt.Sprint("New ", n), "true", New(n) == nil)
	}
	is(t, "of none", "false 0 [] false", New(0) == nil, New(0).Len(), New(0).All(), New(0).Put(0))
	l := New(1024)
	is(t, "nobody", "0 [] false", l.Len(), l.All(), l.Has(0))
	is(t, "edges", "true true false false", l.Put(0), l.Put(1023), l.Put(1024), l.Put(-1))
	is(t, "last first", "2 [1023 0] true false", l.Len(), l.All(), l.Has(0), l.Has(1))
	l.All()[0] = 7
	is(t, "new memory", "[1023 0]", l.All())
	is(t, "no ids", "false false false", l.Has(-1), l.Has(1024), l.Has(math.MinInt))
}

func TestPutGet(t *testing.T) { // P2002
	l := New(8)
	l.Put(1)
	l.Put(2)
	is(t, "there already", "false [2 1]", l.Put(1), l.All())
	is(t, "example", "2 true 2 true 1 true 0 false 0 false", two(l.Peek()), two(l.Get()), two(l.Get()), two(l.Get()), two(l.Peek()))
	for id := range 5 {
		l.Put(id)
	}
	is(t, "Drop", "true true true false false [3 1] 2", l.Drop(2), l.Drop(4), l.Drop(0), l.Drop(2), l.Drop(9), l.All(), l.Len())
	is(t, "comes last again", "true [0 3 1] 0 true", l.Put(0), l.All(), two(l.Get()))
	is(t, "none", "false false", l.Drop(-1), l.Drop(math.MaxInt))
}

func TestNil(t *testing.T) { // P2001, P2002
	var l *List
	is(t, "nil", "0 false 0 false 0 false false false []", l.Len(), l.Put(0), two(l.Get()), two(l.Peek()), l.Drop(0), l.Has(0), l.All())
}

func TestLaw(t *testing.T) { // P2003
	seed := uint64(6)
	below := func(n int) int {
		seed = seed*6364136223846793005 + 1442695040888963407
		return int(seed >> 33 % uint64(n))
	}
	l := New(9)
	var want []int
	for range 4000 {
		id := below(9)
		switch below(4) {
		case 0, 1:
			if l.Put(id) {
				want = append([]int{id}, want...)
			}
		case 2:
			if l.Drop(id) {
				want = slices.DeleteFunc(want, func(w int) bool { return w == id })
			}
		case 3:
			if id, ok := l.Get(); ok && id == want[0] {
				want = want[1:]
			}
		}
		all := l.All()
		if fmt.Sprint(all) != fmt.Sprint(want) || len(all) != l.Len() {
			t.Fatal(all, want)
		}
		slices.Sort(all)
		if len(slices.Compact(all)) != l.Len() {
			t.Fatal("twice", all)
		}
	}
}
