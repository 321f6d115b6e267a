package num_test

import (
	"fmt"
	"math"
	"slices"
	"testing"

	. "escapement/num"
)

func is(t *testing.T, what string, got, want any) {
	t.Helper()
	if fmt.Sprint(got) != fmt.Sprint(want) {
		t.Errorf("%s: %v, not %v", what, got, want)
	}
}

func TestMod(t *testing.T) { // P101
	for _, c := range [][3]int{{7, 5, 2}, {-1, 5, 4}, {-5, 5, 0}, {0, 1, 0}, {3, 0, 0}, {3, -2, 0}, {math.MinInt, math.MaxInt, math.MaxInt - 1}, {math.MaxInt, 2, 1}, {math.MinInt, 1, 0}, {-1, math.MaxInt, math.MaxInt - 1}, {5, math.MinInt, 0}} {
		is(t, fmt.Sprint("Mod ", c[0], c[1]), Mod(c[0], c[1]), c[2])
	}
}

func TestLessDist(t *testing.T) { // P101
	is(t, "itself", Less(3, 3), false)
	is(t, "next", Less(3, 4), true)
	is(t, "back", Less(4, 3), false)
	is(t, "round", Less(1<<32-1, 0), true)
	is(t, "just below half", Less(0, 1<<31-1), true)
	is(t, "half", Less(0, 1<<31), false)
	is(t, "half, the other way", Less(1<<31, 0), false)
	is(t, "Dist", Dist(2, 5), 3)
	is(t, "Dist round", Dist(5, 2), uint32(1<<32-3))
	is(t, "Dist of itself", Dist(9, 9), 0)
}

func TestGcd(t *testing.T) { // P102
	for _, c := range [][3]int{{12, 18, 6}, {18, 12, 6}, {0, 0, 0}, {0, 7, 7}, {7, 0, 7}, {1, 9, 1}, {-4, 6, 0}, {4, -6, 0}, {math.MinInt, 2, 0}, {math.MaxInt, math.MaxInt, math.MaxInt}, {17, 5, 1}} {
		is(t, fmt.Sprint("Gcd ", c[0], c[1]), Gcd(c[0], c[1]), c[2])
	}
}

func TestCoprimes(t *testing.T) { // P102
	is(t, "of 1", Coprimes(1), []int{1})
	is(t, "of 6", Coprimes(6), []int{1, 5})
	is(t, "of 7", Coprimes(7), []int{1, 2, 3, 4, 5, 6})
	is(t, "of 1024", len(Coprimes(1024)), 512)
	for _, n := range []int{0, -1, 1025, math.MaxInt, math.MinInt} {
		is(t, fmt.Sprint("of ", n), len(Coprimes(n)), 0)
	}
}

func TestWalk(t *testing.T) { // P103
	is(t, "example", slices.Collect(Walk(4, 6, 3)), []int{2, 1, 0, 3})
	is(t, "one place", slices.Collect(Walk(1, 7, 1)), []int{0})
	is(t, "below 0", slices.Collect(Walk(3, -1, 1)), []int{2, 0, 1})
	is(t, "step above n", slices.Collect(Walk(3, 0, 1024)), []int{0, 1, 2})
	is(t, "divisor", slices.Collect(Walk(4, 1, 2)), []int{1, 3, 1, 3})
	is(t, "start is far", slices.Collect(Walk(2, math.MinInt, 1)), []int{0, 1})
	is(t, "most", len(slices.Collect(Walk(1024, 0, 1024))), 1024)
	for _, c := range [][2]int{{0, 1}, {-1, 1}, {1025, 1}, {3, 0}, {3, -1}, {3, 1025}} {
		is(t, fmt.Sprint("none of ", c), len(slices.Collect(Walk(c[0], 0, c[1]))), 0)
	}
	walk := Walk(5, 0, 1)
	for at := range walk {
		if at == 2 {
			break
		}
	}
	is(t, "again from its start", slices.Collect(walk), []int{0, 1, 2, 3, 4})
}

func TestWalkLaw(t *testing.T) { // P104
	for n := 1; n <= 40; n++ {
		for _, step := range Coprimes(n) {
			l := slices.Sorted(Walk(n, 3*n+1, step))
			for i, at := range l {
				if i != at {
					t.Fatalf("walk of %d by %d: %v", n, step, l)
				}
			}
		}
	}
}
