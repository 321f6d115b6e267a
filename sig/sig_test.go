package sig_test

import (
	"fmt"
	"math"
	"testing"

	"escapement/api"
	. "escapement/sig"
)

func is(t *testing.T, what string, want string, got ...any) {
	t.Helper()
	if s := fmt.Sprintln(got...); s != want+"\n" {
		t.Errorf("%s: %s, not %s", what, s, want)
	}
}

func next(b *Box) string {
	m, due, ok := b.Next()
	return fmt.Sprint(m, due, ok)
}

func TestNewAll(t *testing.T) { // P2101
	b := New()
	is(t, "none", "0 []", b.Len(), b.All())
	b.Send(3, 7)
	b.Send(1, 7)
	b.Send(2, -4)
	b.Send(0, 9)
	is(t, "by Due, by M", "4 [{2 -4} {1 7} {3 7} {0 9}]", b.Len(), b.All())
	b.All()[0].M = 60
	is(t, "new memory", "2 -4 true", next(b))
}

func TestSend(t *testing.T) { // P2102
	b := New()
	is(t, "example", "true false [{1 3}]", b.Send(1, 5), b.Send(1, 3), b.All())
	is(t, "later", "false [{1 3}]", b.Send(1, 9), b.All())
	for _, m := range []int{-1, api.MaxMs, math.MaxInt, math.MinInt} {
		is(t, fmt.Sprint("no ", m), "false 1", b.Send(m, 1), b.Len())
	}
	is(t, "edges", "true true [{63 -9223372036854775808} {1 3} {0 9223372036854775807}]", b.Send(63, math.MinInt64), b.Send(0, math.MaxInt64), b.All())
}

func TestDueNextTake(t *testing.T) { // P2103
	b := New()
	is(t, "none", "false 0 0 false []", b.Due(1, 100), next(b), b.Take(math.MaxInt64))
	for m := range 6 {
		b.Send(m, int64(10-m))
	}
	is(t, "Due", "false true false 5", b.Due(2, 7), b.Due(2, 8), b.Due(2, 8), b.Len())
	is(t, "no machine", "false false", b.Due(-1, 100), b.Due(64, 100))
	is(t, "Next", "5 5 true 5", next(b), b.Len())
	is(t, "Take", "[] [5 4 3] [{1 9} {0 10}]", b.Take(4), b.Take(7), b.All())
	is(t, "again", "true true", b.Send(5, 1), b.Due(5, 1))
	is(t, "all", "[1 0] 0", b.Take(10), b.Len())
}

func TestNil(t *testing.T) { // P2101 to P2103
	var b *Box
	is(t, "nil", "0 false false 0 0 false [] []", b.Len(), b.Send(1, 1), b.Due(1, 1), next(b), b.Take(1), b.All())
}

func TestLaw(t *testing.T) { // P2104
	seed := uint64(7)
	below := func(n int) int {
		seed = seed*6364136223846793005 + 1442695040888963407
		return int(seed >> 33 % uint64(n))
	}
	b := New()
	due := map[int]int64{}
	for now := range int64(4000) {
		m := below(64)
		switch below(3) {
		case 0, 1:
			at := now + int64(below(65))
			old, ok := due[m]
			if b.Send(m, at) == ok {
				t.Fatal("under way?", m)
			}
			if !ok || at < old {
				due[m] = at
			}
		case 2:
			at, ok := due[m]
			if b.Due(m, now) != (ok && at <= now) {
				t.Fatal("due?", m)
			}
			if ok && at <= now {
				delete(due, m)
			}
		}
		if below(20) == 0 {
			for _, m := range b.Take(now) {
				if at, ok := due[m]; !ok || at > now {
					t.Fatal("not due", m)
				}
				delete(due, m)
			}
			for m, at := range due {
				if at <= now {
					t.Fatal("was due", m)
				}
			}
		}
		if b.Len() != len(due) {
			t.Fatal("lost", b.Len(), len(due))
		}
	}
}
