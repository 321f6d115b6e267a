package note_test

import (
	"fmt"
	"math"
	"testing"

	"escapement/api"
	. "escapement/note"
)

func is(t *testing.T, what string, want string, got ...any) {
	t.Helper()
	if s := fmt.Sprintln(got...); s != want+"\n" {
		t.Errorf("%s: %s, not %s", what, s, want)
	}
}

func sleep(n *Note, who int) string {
	ok, f := n.Sleep(who)
	return fmt.Sprint(ok, f)
}

func wake(n *Note) string {
	who, f := n.Wake()
	return fmt.Sprint(who, " ", f)
}

func sleeper(n *Note) string {
	who, ok := n.Sleeper()
	return fmt.Sprint(who, ok)
}

func TestNewClear(t *testing.T) { // P301
	n := New()
	is(t, "at first", "false -1 false", n.Set(), sleeper(n))
	is(t, "nothing to clear", "0", n.Clear())
	n.Wake()
	is(t, "set", "true", n.Set())
	is(t, "cleared", "0 false", n.Clear(), n.Set())
	n.Sleep(2)
	is(t, "held", "7", n.Clear())
	is(t, "and stays", "2 true", sleeper(n))
}

func TestSleep(t *testing.T) { // P302
	n := New()
	for _, who := range []int{-1, 1<<40 + 1, math.MinInt, math.MaxInt} {
		is(t, fmt.Sprint("no ", who), "false 1", sleep(n, who))
	}
	is(t, "sleeps", "false 0 5 true", sleep(n, 5), sleeper(n))
	is(t, "still", "false 0 5 true", sleep(n, 5), sleeper(n))
	is(t, "another", "false 7 5 true", sleep(n, 6), sleeper(n))
	is(t, "no number, ahead of held", "false 1", sleep(n, -1))
	n.Wake()
	is(t, "set", "true 0 -1 false", sleep(n, 6), sleeper(n))
	is(t, "set yet", "true", n.Set())
	m := New()
	is(t, "edges", "false 0 0 0", sleep(m, 0), wake(m))
	m.Clear()
	is(t, "most", "false 0 1099511627776 0", sleep(m, 1<<40), wake(m))
}

func TestWake(t *testing.T) { // P303
	n := New()
	n.Sleep(3)
	is(t, "who slept", "3 0 true -1 false", wake(n), n.Set(), sleeper(n))
	is(t, "again", "-1 9", wake(n))
	is(t, "example", "true 0", sleep(n, 3))
	n.Clear()
	is(t, "nobody", "-1 0 true", wake(n), n.Set())
}

func TestNil(t *testing.T) { // P301 to P304
	var n *Note
	is(t, "nil", "1 false 1 -1 1 false -1 false", n.Clear(), sleep(n, 1), wake(n), n.Set(), sleeper(n))
}

func TestLaw(t *testing.T) { // P305
	n := New()
	slept, woken, wakes := 0, 0, 0
	for i := range 2000 {
		switch i * i % 7 {
		case 0, 1:
			if ok, f := n.Sleep(i % 3); !ok && f == api.OK {
				slept |= 1
			}
		case 2:
			who, f := n.Wake()
			if f == api.OK {
				wakes++
				woken += slept
				if (who >= 0) != (slept == 1) {
					t.Fatal("who sleeps is waked just once", i)
				}
				slept = 0
			}
		default:
			if n.Clear() == api.OK {
				wakes = 0
			}
		}
		if wakes > 1 {
			t.Fatal("two wake without a clear")
		}
	}
	if woken == 0 {
		t.Error("nobody was waked")
	}
}
