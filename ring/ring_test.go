package ring_test

import (
	"fmt"
	"math"
	"slices"
	"testing"

	"escapement/api"
	. "escapement/ring"
)

func is(t *testing.T, what string, want string, got ...any) {
	t.Helper()
	if s := fmt.Sprintln(got...); s != want+"\n" {
		t.Errorf("%s: %s, not %s", what, s, want)
	}
}

func of(size int, l ...int) *Ring {
	r := New(size)
	r.Fill(l)
	return r
}

func TestNew(t *testing.T) { // P1301
	for _, size := range []int{0, 1, 3, -2, 255, 257, 258, math.MaxInt, math.MinInt} {
		is(t, fmt.Sprint("New ", size), "true", New(size) == nil)
	}
	r := New(api.RingSize)
	is(t, "empty", "256 0 0 []", r.Size(), r.Len(), r.Next(), r.List())
	r = New(2)
	r.Put(4, false)
	r.Put(5, true)
	is(t, "two", "2 2 5 [5 4]", r.Size(), r.Len(), r.Next(), r.List())
	r.List()[0] = 9
	is(t, "List is new memory", "[5 4]", r.List())
}

func TestPut(t *testing.T) { // P1302
	r := New(4)
	r.Put(1, false)
	r.Put(2, true)
	is(t, "example", "[] [3 1 2]", r.Put(3, true), r.List())
	is(t, "room yet", "[] [] [3 1 2 4 5]", r.Put(4, false), r.Put(5, false), r.List())
	is(t, "full", "[1 2 6] [3 4 5]", r.Put(6, false), r.List())
	r.Put(7, false)
	r.Put(8, false)
	is(t, "full, with next", "[4 5 3] [9 7 8]", r.Put(9, true), r.List())
	r = of(2, 1, 2)
	is(t, "nobody was next", "[] [3 1 2]", r.Put(3, true), r.List())
	for _, g := range []int{0, -1, math.MinInt} {
		is(t, fmt.Sprint("no ", g), "[] [] [3 1 2]", r.Put(g, true), r.Put(g, false), r.List())
	}
}

func get(r *Ring) string {
	g, ok := r.Get()
	return fmt.Sprint(g, ok)
}

func TestGetGrab(t *testing.T) { // P1303
	r := of(4, 1, 2, 3)
	r.Put(9, true)
	is(t, "Get", "9 true 1 true [2 3]", get(r), get(r), r.List())
	is(t, "to the end", "2 true 3 true 0 false", get(r), get(r), get(r))
	r = of(8, 1, 2, 3, 4, 5)
	r.Put(9, true)
	is(t, "Grab", "[1 2 3] [4] [5] [9] []", r.Grab(), r.Grab(), r.Grab(), r.Grab(), r.Grab())
	is(t, "half of four", "[1 2]", of(4, 1, 2, 3, 4).Grab())
}

func TestFillDrain(t *testing.T) { // P1304
	r := New(4)
	r.Put(9, true)
	l := []int{1, 2, 3, 4, 5, 6}
	left := r.Fill(l)
	is(t, "left", "[5 6] [9 1 2 3 4]", left, r.List())
	left[0] = 77
	is(t, "what is handed in", "[1 2 3 4 5 6]", l)
	is(t, "full", "[8]", r.Fill([]int{8}))
	is(t, "Drain", "[9 1 2 3 4] [] 0 0", r.Drain(), r.Drain(), r.Len(), r.Next())
	is(t, "none below 1", "[] []", r.Fill([]int{1, 0, 2}), r.List())
	is(t, "nor behind the room", "[] []", r.Fill([]int{1, 2, 3, 4, 5, -1}), r.List())
	is(t, "nothing", "[] []", r.Fill(nil), r.List())
	r = of(4, 1, 2, 3, 4)
	r.Grab()
	is(t, "round", "[] [7] [3 4 5 6]", r.Fill([]int{5, 6}), r.Fill([]int{7}), r.List())
}

func TestNil(t *testing.T) { // P1301 to P1304
	var r *Ring
	is(t, "nil", "[] 0 false [] [] 0 [] 0 [] 0", r.Put(1, true), get(r), r.Grab(), r.Fill([]int{1}), r.Len(), r.List(), r.Next(), r.Drain(), r.Size())
}

func TestLaw(t *testing.T) { // P1305
	seed := uint64(3)
	below := func(n int) int {
		seed = seed*6364136223846793005 + 1442695040888963407
		return int(seed >> 33 % uint64(n))
	}
	r := New(6)
	var out []int
	many := 0
	for range 5000 {
		switch below(7) {
		case 0, 1, 2:
			many++
			out = append(out, r.Put(many, below(2) == 0)...)
		case 3:
			if g, ok := r.Get(); ok {
				out = append(out, g)
			}
		case 4:
			out = append(out, r.Grab()...)
		case 5:
			l := []int{many + 1, many + 2, many + 3}
			many += 3
			out = append(out, r.Fill(l)...)
		case 6:
			if below(9) == 0 {
				out = append(out, r.Drain()...)
			}
		}
		if len(out)+r.Len() != many || r.Len() != len(r.List()) {
			t.Fatal("lost", len(out), r.Len(), many)
		}
	}
	out = append(out, r.Drain()...)
	slices.Sort(out)
	for i, g := range out {
		if g != i+1 {
			t.Fatal("not just once", g)
		}
	}
}
