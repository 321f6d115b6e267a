package decide_test

import (
	"fmt"
	"math"
	"testing"

	"escapement/api"
	. "escapement/decide"
)

func is(t *testing.T, what string, want string, got ...any) {
	t.Helper()
	if s := fmt.Sprintln(got...); s != want+"\n" {
		t.Errorf("%s: %s, not %s", what, s, want)
	}
}

// flags: each of the 64, by its bits.
func flags(n int) Flags {
	return Flags{n&1 > 0, n&2 > 0, n&4 > 0, n&8 > 0, n&16 > 0, n&32 > 0}
}

var fun = api.Func{Code: make([]api.Instr, 3), Safe: []bool{false, true, false}}

func TestDecide(t *testing.T) { // P2501
	is(t, "example", "3", Decide(fun, 0, Flags{Preempt: true, Stopping: true}))
	for n := range 64 {
		x := flags(n)
		for _, pc := range []int{-1, 2, 3, math.MaxInt, math.MinInt} {
			is(t, "no place to stop", "0", Decide(fun, pc, x))
		}
		prologue, other := 0, 0
		if x.Armed || x.Preempt {
			prologue = Behind(x)
		}
		if x.Armed {
			other = Behind(x)
		}
		is(t, fmt.Sprint("places ", x), fmt.Sprint(prologue, other), Decide(fun, 0, x), Decide(fun, 1, x))
	}
	is(t, "no places", "0", Decide(api.Func{}, 0, Flags{Armed: true}))
	is(t, "Preempt alone", "0 4", Decide(fun, 1, Flags{Preempt: true}), Decide(fun, 0, Flags{Preempt: true}))
}

func TestBehind(t *testing.T) { // P2502
	for n := range 64 {
		x := flags(n)
		want := Forget
		if x.Stopping || x.Spent {
			want = Requeue
		}
		if x.Suspend {
			want = Park
		}
		if x.Barrier {
			want = Serve
		}
		is(t, fmt.Sprint(x), fmt.Sprint(want), Behind(x))
	}
	is(t, "each", "1 2 3 3 4", Behind(Flags{Barrier: true}), Behind(Flags{Suspend: true}), Behind(Flags{Stopping: true}), Behind(Flags{Spent: true}), Behind(Flags{}))
}

func TestClear(t *testing.T) { // P2503
	all := flags(63)
	is(t, "Go", fmt.Sprint(all), Clear(all, Go))
	is(t, "Serve", "{true true false true true true}", Clear(all, Serve))
	is(t, "Park", "{false false true true false false}", Clear(all, Park))
	is(t, "Requeue", "{false false true true true false}", Clear(all, Requeue))
	is(t, "Forget", "{false false true true true true}", Clear(all, Forget))
	for _, action := range []int{-1, 5, math.MaxInt, math.MinInt} {
		is(t, "none", fmt.Sprint(all), Clear(all, action))
	}
}

func TestName(t *testing.T) { // P2504
	is(t, "Name", "go serve park requeue forget   ", Name(0), Name(1), Name(2), Name(3), Name(4), Name(5), Name(-1), Name(math.MinInt))
	is(t, "numbers", "0 1 2 3 4", Go, Serve, Park, Requeue, Forget)
}

func TestLaw(t *testing.T) { // P2505
	for n := range 64 {
		for pc := range 2 {
			x := flags(n)
			for range 3 {
				x = Clear(x, Decide(fun, pc, x))
			}
			is(t, fmt.Sprint(flags(n)), "0", Decide(fun, pc, x))
		}
	}
}
