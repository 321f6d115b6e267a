package checks

import (
	"testing"

	"escapement/api"
	"escapement/asm"
	"escapement/audit"
	"escapement/code"
	"escapement/dump"
	"escapement/event"
	"escapement/gen"
	"escapement/machine"
	"escapement/model"
	"escapement/script"
)

// played: all events, and the snap at the end.
func played(t *testing.T, p api.Program, c api.Conf, l []api.Entry) ([]api.Event, api.Snap) {
	t.Helper()
	m, f := machine.New(p, c)
	if f != api.OK {
		t.Fatal(f)
	}
	return m.Run(l), m.Snap()
}

// TestTextsDoTheSame: P6: what is written as text, or as bytes, is read as it was, and does the same.
func TestTextsDoTheSame(t *testing.T) {
	for n := range 60 {
		p, _ := gen.Random(uint64(n), 1+n%6, 5+n%40)
		c := api.Conf{Procs: 1 + n%5, Gs: 1 + n%9, Ms: 1 + n%6}
		l := script.Robin(500, n%7)
		text, _ := asm.Print(p)
		bytes, _ := code.Print(p)
		byText, _, f := asm.Parse(text)
		byBytes, _, g := code.Parse(bytes)
		conf, ok := script.Conf(script.Words(c))
		entries, _, h := script.Parse(script.Print(l))
		if f != api.OK || g != api.OK || h != api.OK || !ok {
			t.Fatal(n, f, g, h, ok)
		}
		seen, snap := played(t, p, c, l)
		for _, q := range []api.Program{byText, byBytes} {
			other, otherSnap := played(t, q, conf, entries)
			if !event.Same(seen, other) || !dump.Same(snap, otherSnap) {
				t.Fatal("it does something else", n)
			}
		}
		lines, _ := event.Print(seen)
		back, _, f := event.Parse(lines)
		words, _ := dump.Print(snap)
		again, _, g := dump.Parse(words)
		if f != api.OK || g != api.OK || !event.Same(seen, back) || !dump.Same(snap, again) {
			t.Fatal("it is read as something else", n, f, g)
		}
	}
}

// TestSeenIsAllowed: P1, P2, P4, P5: whatever program, Conf and script.
func TestSeenIsAllowed(t *testing.T) {
	for n := range 80 {
		p, _ := gen.Random(uint64(n)<<40+5, 1+n%7, 4+n%60)
		c := api.Conf{Procs: 1 + n*n%256, Gs: 1 + n*7%64, Ms: 1 + n*3%64}
		m, f := machine.New(p, c)
		if f != api.OK {
			t.Fatal(f)
		}
		dice := gen.New(uint64(n))
		var seen []api.Event
		for range 400 {
			e, ok := m.Step(api.Entry{Pick: int(dice.Next()) - 1<<30, Delay: int(dice.Next()) - 1<<30, Draw: int(dice.Next()) - 1<<30})
			if ok {
				seen = append(seen, e)
			}
			if why := audit.All(p, m.Snap()); why != "" {
				t.Fatal(n, why)
			}
		}
		if at, f := model.Check(p, c, seen); f != api.OK {
			t.Fatal("not allowed", n, at, seen[at])
		}
	}
	if m, f := machine.New(api.Program{}, api.Conf{Procs: 1, Gs: 1, Ms: 1}); m != nil || f != api.BadArg {
		t.Error("what may not run is not refused", f)
	}
}

// TestExamples: the document's examples of the whole; P3.
func TestExamples(t *testing.T) {
	p, _, _ := asm.Parse("func\nemit r0\nexit\n")
	for pick := range 3 {
		seen, _ := played(t, p, api.Conf{Procs: 1, Gs: 1, Ms: 1}, []api.Entry{{Pick: pick}, {Pick: -pick}, {Pick: 5}, {Pick: pick}, {}, {}})
		if len(seen) != 2 {
			t.Error("emit, exit:", seen)
		}
	}
	p, _, _ = asm.Parse("func\n* block\n* exit\n")
	seen, _ := played(t, p, api.Conf{Procs: 2, Gs: 1, Ms: 2}, script.Robin(300, 1))
	if len(seen) != 1 {
		t.Error("block, exit:", seen)
	}
	p, _ = gen.Rounds(3)
	p.Funcs[0].Code[4] = api.Instr{Op: api.OpJump, N: 4}
	_, snap := played(t, p, api.Conf{Procs: 4, Gs: 4, Ms: 4}, script.Robin(3000, 3))
	if snap.Holder != 1 || len(snap.Status) != 4 || snap.Status[1] != api.GRunnable || snap.Status[2] != api.GRunnable || snap.Status[3] != api.GRunnable {
		t.Error("three go round:", snap.Holder, snap.Status)
	}
}
