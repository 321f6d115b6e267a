package gstat_test

import (
	"fmt"
	"math"
	"testing"

	"escapement/api"
	. "escapement/gstat"
)

func is(t *testing.T, what string, want string, got ...any) {
	t.Helper()
	if s := fmt.Sprintln(got...); s != want+"\n" {
		t.Errorf("%s: %s, not %s", what, s, want)
	}
}

func two(w int, f api.Fault) string { return fmt.Sprint(w, " ", int(f)) }

var none = []int{-1, 7, 8, 10, 14, 15, 16, 17, 24, 25, -8, -7, math.MinInt, math.MaxInt}

func TestWords(t *testing.T) { // P1801
	want := map[int]string{0: "idle", 1: "runnable", 2: "running", 3: "syscall", 4: "waiting", 5: "preempted", 6: "dead", 9: "runnable+", 11: "syscall+", 12: "waiting+", 13: "preempted+"}
	for w, name := range want {
		is(t, name, fmt.Sprint("true ", w&7, w > 8, " ", name), Is(w), Base(w), Scanned(w), Name(w))
	}
	for _, w := range none {
		is(t, fmt.Sprint("no ", w), "false 0 false ", Is(w), Base(w), Scanned(w), Name(w))
		is(t, fmt.Sprint("moves of ", w), "0 1 0 1 0 1 false false", two(Move(w, 1)), two(Lock(w)), two(Unlock(w)), May(w, 1), May(1, w))
	}
}

func TestMay(t *testing.T) { // P1802
	want := " 0-1 1-2 1-5 2-1 2-3 2-4 2-5 2-6 3-1 3-2 4-1 5-1"
	got := ""
	for from := -1; from < 17; from++ {
		for to := -1; to < 17; to++ {
			if May(from, to) {
				got += fmt.Sprintf(" %d-%d", from, to)
			}
		}
	}
	is(t, "May", want, got)
}

func TestMove(t *testing.T) { // P1802
	is(t, "moves", "1 0 2 0 6 0", two(Move(0, 1)), two(Move(1, 2)), two(Move(2, 6)))
	is(t, "may not", "0 9 0 9 0 9", two(Move(0, 2)), two(Move(6, 1)), two(Move(9, 3)))
	is(t, "held", "0 7 0 7 0 7", two(Move(9, 2)), two(Move(9, 5)), two(Move(11, 2)))
	is(t, "with Scan", "9 0 9 0 9 0", two(Move(11, 1)), two(Move(12, 1)), two(Move(13, 1)))
	is(t, "no status", "0 1 0 1 0 1 0 1", two(Move(1, 7)), two(Move(1, 9)), two(Move(2, 9)), two(Move(1, math.MinInt)))
	is(t, "itself", "0 9", two(Move(9, 1)))
}

func TestLockUnlock(t *testing.T) { // P1803
	is(t, "Lock", "9 0 11 0 12 0 13 0", two(Lock(1)), two(Lock(3)), two(Lock(4)), two(Lock(5)))
	is(t, "held", "0 7 0 7", two(Lock(9)), two(Lock(13)))
	is(t, "does not go", "0 9 0 9 0 9", two(Lock(0)), two(Lock(2)), two(Lock(6)))
	is(t, "Unlock", "1 0 3 0 4 0 5 0", two(Unlock(9)), two(Unlock(11)), two(Unlock(12)), two(Unlock(13)))
	is(t, "not there", "0 9 0 9", two(Unlock(1)), two(Unlock(2)))
}

func TestLaw(t *testing.T) { // P1804
	for w := range 16 {
		if !Scanned(w) {
			continue
		}
		for to := range 16 {
			if next, f := Move(w, to); f == api.OK && (Base(next) == api.GRunning || !Scanned(next)) {
				t.Error(w, to, next)
			}
		}
	}
}
