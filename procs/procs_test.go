package procs_test

import (
	"fmt"
	"math"
	"slices"
	"testing"

	"escapement/api"
	"escapement/glob"
	. "escapement/procs"
)

func is(t *testing.T, what string, want string, got ...any) {
	t.Helper()
	if s := fmt.Sprintln(got...); s != want+"\n" {
		t.Errorf("%s: %s, not %s", what, s, want)
	}
}

func most(p *Procs) string {
	i, ok := p.Most()
	return fmt.Sprint(i, ok)
}

func TestNew(t *testing.T) { // P2301
	for _, n := range []int{0, -1, 257, math.MaxInt, math.MinInt} {
		is(t, fmt.Sprint("New ", n), "true", New(n) == nil)
	}
	p := New(2)
	is(t, "two", "2 256 [[] []] true true", p.Len(), p.Ring(1).Size(), p.Queues(), p.Ring(2) == nil, p.Ring(-1) == nil)
	is(t, "least, most", "1 256", New(1).Len(), New(256).Len())
	p.Ring(1).Put(5, false)
	is(t, "itself", "[5] true", p.Ring(1).List(), p.Ring(1) == p.Ring(1))
}

func TestResize(t *testing.T) { // P2302
	p, q := New(2), glob.New()
	p.Ring(1).Put(7, false)
	is(t, "example", "0 [7] 1", int(p.Resize(1, q)), q.List(), p.Len())
	p.Resize(4, q)
	zero := p.Ring(0)
	for i := range 4 {
		p.Ring(i).Fill([]int{10*i + 1, 10*i + 2})
	}
	p.Ring(2).Put(29, true)
	q.Put(8)
	is(t, "faults", "1 2 2 2 1 [[1 2] [11 12] [29 21 22] [31 32]]", int(p.Resize(1, nil)), int(p.Resize(0, q)), int(p.Resize(257, q)), int(p.Resize(math.MinInt, q)), int(p.Resize(0, nil)), p.Queues())
	is(t, "fewer", "0 [31 32 29 21 22 7 8] [[1 2] [11 12]] true", int(p.Resize(2, q)), q.List(), p.Queues(), p.Ring(0) == zero)
	is(t, "more", "0 [[1 2] [11 12] [] []] true", int(p.Resize(4, q)), p.Queues(), p.Ring(0) == zero)
	is(t, "most", "0 256", int(p.Resize(256, q)), p.Len())
}

func TestQueues(t *testing.T) { // P2303
	p := New(3)
	is(t, "nobody", "[[] [] []] 0 0 false", p.Queues(), p.Total(), most(p))
	p.Ring(1).Fill([]int{1, 2})
	p.Ring(2).Fill([]int{3})
	p.Ring(2).Put(4, true)
	is(t, "first of most", "[[] [1 2] [4 3]] 4 1 true", p.Queues(), p.Total(), most(p))
	p.Queues()[1][0] = 9
	p.Ring(2).Put(5, false)
	is(t, "new memory", "[[] [1 2] [4 3 5]] 5 2 true", p.Queues(), p.Total(), most(p))
}

func TestNil(t *testing.T) { // P2301 to P2303
	var p *Procs
	is(t, "nil", "0 true [] 0 0 false 1", p.Len(), p.Ring(0) == nil, p.Queues(), p.Total(), most(p), int(p.Resize(1, nil)))
	is(t, "nil, ahead of Range", "1", int(p.Resize(0, glob.New())))
}

func TestLaw(t *testing.T) { // P2304
	seed := uint64(11)
	below := func(n int) int {
		seed = seed*6364136223846793005 + 1442695040888963407
		return int(seed >> 33 % uint64(n))
	}
	p, q := New(3), glob.New()
	many := 0
	for range 600 {
		for range below(5) {
			many++
			q.Put(p.Ring(below(p.Len())).Put(many, below(2) == 0)...)
		}
		before := p.Queues()
		if f := p.Resize(1+below(8), q); f != api.OK {
			t.Fatal(f)
		}
		after := p.Queues()
		for i := range min(len(before), len(after)) {
			if !slices.Equal(before[i], after[i]) {
				t.Fatal("order", before[i], after[i])
			}
		}
		all := append(slices.Concat(after...), q.List()...)
		slices.Sort(all)
		if len(slices.Compact(all)) != many {
			t.Fatal("lost", len(all), many)
		}
	}
}
