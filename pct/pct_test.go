package pct_test

import (
	"fmt"
	"math"
	"slices"
	"testing"

	"escapement/api"
	"escapement/gen"
	. "escapement/pct"
)

func is(t *testing.T, what string, want string, got ...any) {
	t.Helper()
	if s := fmt.Sprintln(got...); s != want+"\n" {
		t.Errorf("%s: %s, not %s", what, s, want)
	}
}

func TestRight(t *testing.T) { // P4002
	good := Plan{1, 1, 0, 0, 2}
	most := Plan{math.MaxUint64, 64, 65536, 100, 1000}
	is(t, "Right", "true true", Right(good), Right(most))
	for _, p := range []Plan{{}, {0, 0, 0, 0, 2}, {0, 65, 0, 0, 2}, {0, 1, -1, 0, 2}, {0, 1, 65537, 0, 2}, {0, 1, 0, -1, 2}, {0, 1, 0, 101, 2}, {0, 1, 0, 0, 1}, {0, 1, 0, 0, 1001}, {0, math.MinInt, math.MaxInt, 0, 2}} {
		l, f := Script(p)
		is(t, fmt.Sprint(p), "false true 1", Right(p), l == nil, int(f))
	}
}

func TestOrderPoints(t *testing.T) { // P4001
	is(t, "none", "[] [] [] []", Order(1, 0), Order(1, -1), Order(1, 65), Order(1, math.MinInt))
	for n := 1; n <= 64; n++ {
		d := gen.New(uint64(n) * 77)
		want := make([]int, n)
		for i := range want {
			want[i] = i
		}
		for i := n - 1; i > 0; i-- {
			j := d.Below(i + 1)
			want[i], want[j] = want[j], want[i]
		}
		is(t, fmt.Sprint("Order of ", n), fmt.Sprint(want), Order(uint64(n)*77, n))
	}
	for seed := range uint64(30) {
		d := gen.New(seed)
		var want []int
		for range 40 {
			want = append(want, d.Below(51))
		}
		slices.Sort(want)
		is(t, "Points", fmt.Sprint(slices.Compact(want)), Points(seed, 50, 40))
	}
	is(t, "edges", "[0] [] [] [] [] []", Points(5, 0, 100), Points(5, 9, 0), Points(5, -1, 5), Points(5, 65537, 5), Points(5, 5, -1), Points(5, 5, 101))
}

func TestScript(t *testing.T) { // P4002
	l, f := Script(Plan{9, 1, 30, 5, 2})
	is(t, "example", "30 0", len(l), int(f))
	for i, e := range l {
		is(t, "one machine", fmt.Sprint(api.Entry{Pick: 0, Delay: i % 8, Draw: i}), e)
	}
	for seed := range uint64(20) {
		p := Plan{math.MaxUint64 - 5 + seed, 5, 200, 30, 7}
		order, points := Order(p.Seed, 5), Points(p.Seed+1, 200, 30)
		l, f := Script(p)
		if f != api.OK || len(l) != 200 {
			t.Fatal(f)
		}
		for i, e := range l {
			if slices.Contains(points, i) {
				order = append(order[1:], order[0])
			}
			want := api.Entry{Pick: order[0], Delay: i % 8, Draw: i}
			if (i+1)%7 == 0 {
				want.Pick = (i + 1) / 7 % 5
			}
			is(t, fmt.Sprint("entry ", i), fmt.Sprint(want), e)
		}
	}
	l, f = Script(Plan{1, 64, 65536, 100, 1000})
	is(t, "most", "65536 0", len(l), int(f))
}

func TestShares(t *testing.T) { // P4003
	l := []api.Entry{{Pick: 0}, {Pick: 4}, {Pick: -1}, {Pick: math.MinInt}, {Pick: 1}}
	is(t, "Shares", "[1 3 1] [5] [0 0]", Shares(l, 3), Shares(l, 1), Shares(nil, 2))
	is(t, "none", "[] [] [] 64", Shares(l, 0), Shares(l, 65), Shares(l, -1), len(Shares(l, 64)))
}

func TestLaw(t *testing.T) { // P4004
	for n := range 40 {
		p := Plan{uint64(n), 1 + n%9, 900, n % 20, 2 + n%11}
		l, _ := Script(p)
		last := make([]int, p.Machines)
		for i := range last {
			last[i] = -1
		}
		for i, e := range l {
			last[e.Pick] = i
			for m, at := range last {
				if i-at >= p.Every*p.Machines {
					t.Fatal("not picked", n, m, i)
				}
			}
		}
	}
}
