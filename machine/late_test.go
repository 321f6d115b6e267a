package machine_test

import (
	"testing"

	"escapement/api"
)

// runLate picks one machine again and again, and the others as late as a script that is fair for k may.
func (a *auditor) runLate(d *dice, steps int) {
	last := map[int]int{}
	favourite := 0
	for n := range steps {
		if n%37 == 0 {
			favourite = d.below(9)
		}
		s := a.before
		pick, oldest := favourite%len(s.MP), -1
		for m := range s.MP {
			if s.Parked[m] {
				last[m] = 0
				continue
			}
			if last[m]++; last[m] > a.k {
				a.fail("the script is not fair")
			}
			if last[m] > oldest && last[m] >= a.k-len(s.MP)-1 {
				pick, oldest = m, last[m]
			}
		}
		last[pick] = 0
		a.step(api.Entry{Pick: pick, Delay: min(a.k, 64), Draw: n})
	}
}

func TestLate(t *testing.T) { // P2808, P2809: in scripts that are just fair
	d := &dice{3}
	mixes := []string{
		"const const suspend suspend resume resume nop stop start",
		"nop nop barrier suspend resume const sys stop start",
		"const ready block ready suspend resume resume yield barrier stop start sys",
		"nop nop nop nop if less add stop start barrier",
	}
	for n := range 200 {
		many := 1 + d.below(6)
		p := d.crowd(t, many, weights(mixes[n%len(mixes)]))
		c := api.Conf{Procs: 1 + d.below(6), Gs: many + 2, Ms: 1 + d.below(6)}
		a := newAuditor(t, p, c, 2*c.Ms+2+d.below(40))
		a.runLate(d, 1500)
	}
}
