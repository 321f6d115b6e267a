package stress

import (
	"slices"
	"testing"

	"escapement/api"
)

// No script makes a run go wrong, so what is wrong is looked at by itself.
func TestWrong(t *testing.T) { // P4402
	exit := api.Program{Funcs: []api.Func{{Code: []api.Instr{{Op: api.OpExit}}, Safe: []bool{false}}}}
	conf := api.Conf{Procs: 1, Gs: 1, Ms: 1}
	good := []api.Event{{Kind: api.EvCommit, G: 1}}
	got := []bool{ended{nil, good, ""}.wrong(exit, conf), ended{nil, good, "places"}.wrong(exit, conf), ended{nil, append(good, good...), ""}.wrong(exit, conf), ended{nil, append(good, good...), "procs"}.wrong(exit, conf)}
	if !slices.Equal(got, []bool{false, true, true, true}) {
		t.Error(got)
	}
}
