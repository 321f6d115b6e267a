package deal_test

import (
	"fmt"
	"math"
	"slices"
	"testing"

	"escapement/api"
	. "escapement/deal"
)

func is(t *testing.T, what string, want string, got ...any) {
	t.Helper()
	if s := fmt.Sprintln(got...); s != want+"\n" {
		t.Errorf("%s: %s, not %s", what, s, want)
	}
}

func TestWaysOrder(t *testing.T) { // P1701
	is(t, "Ways", "1 2 6 8 20 32768", Ways(1), Ways(2), Ways(3), Ways(4), Ways(5), Ways(256))
	is(t, "example", "[1 0 3 2]", Order(4, 5))
	is(t, "first", "[0 1 2 3] [3 0 1 2] [0 3 2 1]", Order(4, 0), Order(4, 3), Order(4, 4))
	is(t, "round", "[1 0 3 2] [3 2 1 0]", Order(4, 13), Order(4, -1))
	is(t, "one", "[0] [0]", Order(1, 77), Order(1, math.MinInt))
	is(t, "five by three", "[3 1 4 2 0]", Order(5, 13))
	for _, n := range []int{0, -1, api.MaxProcs + 1, 1024, math.MaxInt, math.MinInt} {
		is(t, fmt.Sprint("of ", n), "0 [] []", Ways(n), Order(n, 1), Others(n, 0, 1))
	}
	is(t, "most", "256", len(Order(256, math.MaxInt)))
}

func TestOthers(t *testing.T) { // P1702
	is(t, "without", "[1 0 2] [0 3 2] []", Others(4, 3, 5), Others(4, 1, 5), Others(1, 0, 5))
	is(t, "no such one", "[1 0 3 2] [1 0 3 2]", Others(4, 4, 5), Others(4, -1, 5))
}

func TestLaw(t *testing.T) { // P1703
	for n := 1; n <= 24; n++ {
		first := make([]int, n)
		for draw := range Ways(n) {
			l := Order(n, draw)
			first[l[0]]++
			slices.Sort(l)
			for i, p := range l {
				if i != p {
					t.Fatal("not just once", n, draw)
				}
			}
		}
		if slices.Min(first) != slices.Max(first) {
			t.Fatal("not as often", n, first)
		}
	}
}
