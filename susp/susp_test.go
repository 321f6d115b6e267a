package susp_test

import (
	"fmt"
	"math"
	"testing"

	"escapement/api"
	"escapement/gstat"
	. "escapement/susp"
)

func is(t *testing.T, what string, want string, got ...any) {
	t.Helper()
	if s := fmt.Sprintln(got...); s != want+"\n" {
		t.Errorf("%s: %s, not %s", what, s, want)
	}
}

func TestNext(t *testing.T) { // P2601
	is(t, "numbers", "0 1 2 3 4", Refuse, Dead, Wait, Ask, Lock)
	is(t, "example", "4 2", Next(api.GRunnable, false, false), Next(api.GRunnable|api.Scan, false, false))
	want := map[int]int{0: Ask, 1: Lock, 2: Ask, 3: Lock, 4: Lock, 5: Lock, 6: Dead}
	for w := -2; w < 20; w++ {
		for _, holder := range []bool{false, true} {
			is(t, "self", "0", Next(w, true, holder))
			x := want[w]
			if w > 6 && gstat.Is(w) && !holder {
				x = Wait
			}
			is(t, fmt.Sprint("Next ", w, holder), fmt.Sprint(x), Next(w, false, holder))
		}
	}
	is(t, "no words", "0 0", Next(math.MinInt, false, false), Next(math.MaxInt, false, true))
}

func TestResume(t *testing.T) { // P2602
	is(t, "numbers", "0 1 2", Nothing, Unlock, Ready)
	for w := -2; w < 20; w++ {
		want, ready := Nothing, Nothing
		switch w {
		case 9, 11:
			want, ready = Unlock, Unlock
		case 12:
			want, ready = Unlock, Ready
		case 13:
			want, ready = Ready, Ready
		}
		is(t, fmt.Sprint("Resume ", w), fmt.Sprint(want, ready), Resume(w, false), Resume(w, true))
	}
}

func TestAnswer(t *testing.T) { // P2603
	want := map[int]string{Refuse: "-1 true", Dead: "0 true", Lock: "1 true"}
	for action := -2; action < 8; action++ {
		n, ok := Answer(action)
		w := want[action]
		if w == "" {
			w = "0 false"
		}
		is(t, fmt.Sprint("Answer ", action), w, n, ok)
	}
}

func TestLog(t *testing.T) { // P2604
	is(t, "none", "true true true false false", New(-1) == nil, New(65) == nil, New(math.MaxInt) == nil, New(0) == nil, New(64) == nil)
	l := New(3)
	is(t, "at first", "[] false false", l.All(), l.Has(1), l.Resume(1))
	is(t, "Suspend", "true true false false false false [1 3]", l.Suspend(3), l.Suspend(1), l.Suspend(3), l.Suspend(0), l.Suspend(4), l.Suspend(-1), l.All())
	l.All()[0] = 2
	is(t, "Has", "true false true false", l.Has(1), l.Has(2), l.Has(3), l.Has(4))
	is(t, "Resume", "true false false [3]", l.Resume(1), l.Resume(1), l.Resume(9), l.All())
	is(t, "of none", "false", New(0).Suspend(1))
	l = nil
	is(t, "nil", "false false false []", l.Suspend(1), l.Resume(1), l.Has(1), l.All())
}

func TestLaw(t *testing.T) { // P2605
	for w := range 7 {
		if Next(w, false, false) != Lock {
			continue
		}
		locked, f := gstat.Lock(w)
		is(t, "locked", "0 2", int(f), Next(locked, false, false))
		if Resume(locked, true) == Nothing || Resume(locked, false) == Nothing {
			t.Error("is not resumed", w)
		}
		open, f := gstat.Unlock(locked)
		is(t, "resumed", "0 4", int(f), Next(open, false, false))
	}
}
