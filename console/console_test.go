package console_test

import (
	"fmt"
	"strings"
	"testing"

	"escapement/asm"
	. "escapement/console"
	"escapement/gen"
	"escapement/script"
)

func is(t *testing.T, what string, want string, got ...any) {
	t.Helper()
	if s := fmt.Sprintln(got...); s != want+"\n" {
		t.Errorf("%s: %q, not %q", what, s, want)
	}
}

var good = Job{"func\nemit r0\nexit\n", "1 1 1", strings.Repeat("0 0 0\n", 200)}

var refused = []struct {
	job Job
	why string
}{
	{Job{"func\nx\n", "", "x"}, "program 2"}, {Job{"exit\n", "1 1 1", ""}, "program 1"}, {Job{"", "", "x"}, "place -1 -1"}, {Job{"func\n", "", "x"}, "place 0 -1"}, {Job{"func\nexit\nfunc\nnop\nnop\n", "", "x"}, "place 1 1"}, {Job{"func\nyield\nexit\n", "", ""}, "place 0 0"},
	{Job{good.Program, "", "x"}, "conf"}, {Job{good.Program, "1 65 1", ""}, "conf"}, {Job{good.Program, "1 1 1", "0 0 0\n0 0\n"}, "script 2"}, {Job{good.Program, "1 1 1", strings.Repeat("0 0 0\n", 65537)}, "script 65537"},
}

func TestLoad(t *testing.T) { // P3501
	p, c, l, why := Load(good)
	is(t, "good", "2 {1 1 1} 200 ", len(p.Funcs[0].Code), c, len(l), why)
	for _, r := range refused {
		p, c, l, why := Load(r.job)
		is(t, r.why, "true {0 0 0} true "+r.why, p.Funcs == nil, c, l == nil, why)
	}
}

func TestRefused(t *testing.T) { // P3502, P3503, P3504
	for _, r := range refused {
		want := "error " + r.why + "\n"
		is(t, r.why, want+" "+want+" "+want+" "+want, Run(r.job), Count(r.job), Judge(r.job, "x"), Ends(r.job))
	}
}

func TestRunCount(t *testing.T) { // P3502
	is(t, "example", "commit 1 0 0 0\ncommit 1 0 1 0\n", Run(good))
	is(t, "Count", "1 0 2 1 1\n", Count(good))
	is(t, "no step", " ", Run(Job{good.Program, "1 1 1", ""}), Count(Job{good.Program, "1 1 1", ""}))
	text, _ := asm.Print(must(gen.Chain(2)))
	is(t, "three", "1 0 3 0", Count(Job{text, "2 3 2", script.Print(script.Robin(300, 1))})[:7])
}

func must[T, F any](x T, _ F) T { return x }

func TestJudge(t *testing.T) { // P3503
	is(t, "allowed", "allowed\n allowed\n", Judge(good, Run(good)), Judge(good, ""))
	is(t, "unread", "unread 2\n unread 1\n", Judge(good, "commit 1 0 0 0\nx\n"), Judge(good, "commit 1 0 0 0"))
	is(t, "wrong", "wrong 2\n wrong 1\n", Judge(good, "commit 1 0 0 0\ncommit 1 0 0 0\n"), Judge(good, "commit 2 0 0 0\n"))
	is(t, "unread goes first", "unread 2\n", Judge(good, "commit 2 0 0 0\nx\n"))
}

func TestEnds(t *testing.T) { // P3504
	is(t, "quiet", "steps 200\nlive 1\nholder 0\nquiet\n", Ends(good))
	is(t, "busy", "steps 0\nlive 1\nholder 0\nbusy\n", Ends(Job{good.Program, "1 1 1", ""}))
	held := Job{"func\n* stop\n* jump 1\n", "3 1 1", script.Print(script.Robin(50, 2))}
	is(t, "held", "steps 50\nlive 1\nholder 1\nbusy\n", Ends(held))
}

func TestLaw(t *testing.T) { // P3505, P6
	for n := range 60 {
		p, _ := gen.Random(uint64(n), 1+n%4, 8+n%20)
		text, _ := asm.Print(p)
		j := Job{text, fmt.Sprint(1+n%4, " ", 1+n%7, " ", 1+n%5), script.Print(script.Robin(400, n%9))}
		is(t, text, "allowed\n", Judge(j, Run(j)))
	}
}
