package reach_test

import (
	"fmt"
	"strings"
	"testing"

	"escapement/api"
	"escapement/gen"
	"escapement/model"
	. "escapement/reach"
)

// reference: how many states there are behind at most depth events, told by a plain search; at most so many.
func reference(p api.Program, c api.Conf, depth, most int) int {
	type node struct {
		path []api.Event
		text string
	}
	look := func(path []api.Event) (string, []api.Event) {
		m, _ := model.New(p, c)
		token := map[int64]bool{}
		for _, e := range path {
			th, _ := m.Thread(e.G)
			i := p.Funcs[th.Func].Code[th.PC]
			r, holds := th.Regs[i.A], m.Holder() == e.G
			blocked := m.Blocked(int(r))
			m.Do(e)
			if e.Kind == api.EvCommit && i.Op == api.OpReady && e.N == 1 && !blocked {
				token[r] = true
			}
			if e.Kind == api.EvCommit && i.Op == api.OpBlock && !holds {
				delete(token, int64(e.G))
			}
		}
		text := fmt.Sprint(m.Holder(), m.Owner(), token)
		for g := 1; g <= m.Count(); g++ {
			th, _ := m.Thread(g)
			text += fmt.Sprint("|", th, m.Blocked(g), m.Suspended(g), m.Begun(g))
		}
		all, _ := Next(p, c, path)
		return text, all
	}
	first, _ := look(nil)
	seen := map[string]bool{first: true}
	row := []node{{nil, first}}
	for range depth {
		var next []node
		for _, n := range row {
			_, all := look(n.path)
			for _, e := range all {
				path := append(n.path[:len(n.path):len(n.path)], e)
				if text, _ := look(path); !seen[text] {
					seen[text] = true
					next = append(next, node{path, text})
				}
				if len(seen) > most {
					return len(seen)
				}
			}
		}
		row = next
	}
	return len(seen)
}

func TestCounts(t *testing.T) { // P3702
	for n := range 60 {
		p, _ := gen.Random(uint64(n)*31, 1+n%3, 4+n%9)
		c := conf(1 + n%3)
		if want := reference(p, c, 7, 500); want <= 500 {
			is(t, fmt.Sprint("random ", n), fmt.Sprint(want, 0), states(p, c, 7))
		}
	}
	for _, lines := range []string{
		"func;call 1;call 1;jump 0;func;ret",
		"func;spawn r1 1;spawn r1 2;exit;func;spawn r1 3;exit;func;nop;exit;func;nop;exit",
		"func;spawn r1 1;stop;start;exit;func;stop;start;jump 0",
		"func;spawn r1 1;barrier;exit;func;barrier;suspend r1;exit",
		"func;spawn r1 1;call 2;exit;func;call 2;jump 0;func;ret",
	} {
		p := program(t, strings.Split(lines, ";")...)
		is(t, lines, fmt.Sprint(reference(p, conf(3), 12, 500), 0), states(p, conf(3), 12))
	}
}

func TestMost(t *testing.T) { // P3702
	// 1 state, and of 20 times 26 those that are within 38 events: all but 21.
	p := program(t, strings.Split("func;spawn r1 1;"+strings.Repeat("nop;", 18)+"exit;func;"+strings.Repeat("nop;", 24)+"exit", ";")...)
	is(t, "just as many", "500 0", states(p, conf(2), 39))
	is(t, "more", "0 2", states(p, conf(2), 40))
}

func states(p api.Program, c api.Conf, depth int) string {
	r, f := Search(p, c, depth)
	return fmt.Sprint(r.States, int(f))
}
