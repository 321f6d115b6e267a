package script_test

import (
	"fmt"
	"math"
	"strings"
	"testing"

	"escapement/api"
	. "escapement/script"
)

func is(t *testing.T, what string, want string, got ...any) {
	t.Helper()
	if s := fmt.Sprintln(got...); s != want+"\n" {
		t.Errorf("%s: %s, not %s", what, s, want)
	}
}

func TestPrintParse(t *testing.T) { // P3001
	is(t, "Print", "1 -2 3\n0 0 -9223372036854775808\n ", Print([]api.Entry{{Pick: 1, Delay: -2, Draw: 3}, {Draw: math.MinInt}}), Print(nil))
	l, n, f := Parse("1 -2 3\n0 0 9223372036854775807\n")
	is(t, "Parse", "[{1 -2 3} {0 0 9223372036854775807}] 0 0", l, n, int(f))
	l, n, f = Parse("")
	is(t, "none", "[] 0 0", l, n, int(f))
	for s, line := range map[string]int{"1 2 3": 1, "\n": 1, "1 2\n": 1, "1 2 3 4\n": 1, "1 2 3\n1  2 3\n": 2, " 1 2 3\n": 1, "1 2 3 \n": 1, "1 2 03\n": 1, "1 2 -0\n": 1, "1 2 x\n": 1, "1 2 9223372036854775808\n": 1, "1 2 3\r\n": 1, "1 2 3\n\n": 2} {
		l, n, f := Parse(s)
		is(t, fmt.Sprintf("%q", s), fmt.Sprint("[] ", line, " 3"), l, n, int(f))
	}
	most := strings.Repeat("0 0 0\n", api.MaxSteps)
	l, n, f = Parse(most)
	is(t, "most", "65536 0 0", len(l), n, int(f))
	l, n, f = Parse(most + "0 0 0\nx\n")
	is(t, "one more", "[] 65537 5", l, n, int(f))
	l, n, f = Parse(most + "x\n")
	is(t, "one more that is none", "[] 65537 3", l, n, int(f))
	l, n, f = Parse(most + "0 0 0")
	is(t, "one more without its end", "[] 65537 3", l, n, int(f))
}

func TestReduce(t *testing.T) { // P3002
	is(t, "Reduce", "{2 1 -5} {2 64 0} {0 0 7}", Reduce(api.Entry{Pick: 5, Delay: 66, Draw: -5}, 3), Reduce(api.Entry{Pick: -1, Delay: -1}, 3), Reduce(api.Entry{Pick: 5, Delay: 65, Draw: 7}, 0))
	is(t, "far", "{1 7 0}", Reduce(api.Entry{Pick: math.MaxInt, Delay: math.MaxInt}, 2))
	is(t, "of fewer than none", "{0 0 0}", Reduce(api.Entry{Pick: math.MinInt}, math.MinInt))
}

func TestRobinOnlySame(t *testing.T) { // P3003
	is(t, "example", "0 1 0\n1 1 1\n", Print(Robin(2, 1)))
	is(t, "none, most", "0 0 65536 65536", len(Robin(0, 1)), len(Robin(-5, 1)), len(Robin(api.MaxSteps+1, 1)), len(Robin(math.MaxInt, 1)))
	is(t, "its delay", "{3 -70 3}", Robin(4, -70)[3])
	l := []api.Entry{{Pick: 0}, {Pick: 4, Delay: 99}, {Pick: -2}, {Pick: 2}}
	is(t, "Only", "[{4 99 0} {-2 0 0}] [] [{0 0 0} {4 99 0} {-2 0 0} {2 0 0}]", Only(l, 3, 1), Only(l, 3, 3), Only(l, 0, 0))
	is(t, "as it was", "[{0 0 0} {4 99 0} {-2 0 0} {2 0 0}]", l)
	is(t, "Same", "false true false false", Same(l, Robin(0, 0)), Same(nil, []api.Entry{}), Same(l, l[:3]), Same(l[:1], l[1:2]))
}

func TestConfWords(t *testing.T) { // P3004
	c, ok := Conf("256 64 64")
	is(t, "most", "{256 64 64} true 256 64 64", c, ok, Words(c))
	for _, s := range []string{"", "1 1", "1 1 1 1", "0 1 1", "1 65 1", "257 1 1", "1 1 -1", "1 1 1\n", " 1 1 1", "1  1 1", "01 1 1", "1 1 x"} {
		c, ok := Conf(s)
		is(t, fmt.Sprintf("%q", s), "{0 0 0} false", c, ok)
	}
	is(t, "none's words", " ", Words(api.Conf{}), Words(api.Conf{Procs: 1, Gs: 65, Ms: 1}))
}

func TestLaw(t *testing.T) { // P3005
	seed := uint64(5)
	next := func() int {
		seed = seed*6364136223846793005 + 1442695040888963407
		return int(seed) >> (seed >> 59)
	}
	for n := range 100 {
		l := make([]api.Entry, n)
		for i := range l {
			l[i] = api.Entry{Pick: next(), Delay: next(), Draw: next()}
		}
		back, line, f := Parse(Print(l))
		if f != api.OK || line != 0 || !Same(l, back) {
			t.Fatal("there and back", l)
		}
	}
	for procs := 1; procs < 9; procs++ {
		c := api.Conf{Procs: procs, Gs: 2 * procs, Ms: 9 - procs}
		if back, ok := Conf(Words(c)); !ok || back != c {
			t.Fatal("there and back", c)
		}
	}
}
