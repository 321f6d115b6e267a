package checks

import (
	"strings"
	"testing"
)

type layer struct{ face, words string }

// TestWays: each layer that is built leans on what the document's section Ways says of it.
func TestWays(t *testing.T) {
	for _, row := range built() {
		t.Run(row.face, func(t *testing.T) {
			t.Parallel()
			missing, err := waysMissing("..", "escapement", []string{row.face}, strings.Fields(row.words))
			if err != nil {
				t.Fatal(err)
			}
			for _, word := range missing {
				t.Errorf("%s: way missing: %s", row.face, word)
			}
		})
	}
}

// built: the layers that are built, each with the ways that it leans on.
func built() []layer {
	return []layer{
		{"num", "label closure range-integer"},
		{"cells", "defer method-value closure copy"},
		{"note", "iota"},
		{"ticket", "embedding promoted method-value"},
		{"bitmap", "closure label range-integer method-value"},
		{"isa", "array constant-table fallthrough"},
		{"code", "method-value panic assertion recover defer closure"},
		{"flow", "closure iota"},
		{"valid", "label closure copy"},
		{"asm", "label method-value array"},
		{"vm", "method-expression fallthrough closure"},
		{"alone", "embedding promoted method-value label"},
		{"ring", "method-value label closure"},
		{"micro", "function-field method-expression embedding promoted variadic iota"},
		{"weave", "method-value function-field closure iota range-integer"},
		{"glob", "label variadic method-value"},
		{"deal", "range-function label"},
		{"gstat", "array"},
		{"pstat", "closure struct-compared fallthrough"},
		{"idle", "label method-value"},
		{"sig", "array assertion label method-value"},
		{"sema", "three-index closure fallthrough"},
		{"procs", "three-index method-expression closure method-value"},
		{"spread", "map delete closure"},
		{"decide", "iota fallthrough array"},
		{"susp", "iota fallthrough map delete range-map"},
		{"model", "method-expression closure function-field method-value"},
		{"machine", "method-expression iota embedding promoted method-value fallthrough"},
		{"event", "label variadic closure fallthrough"},
		{"script", "array label method-value closure"},
		{"fair", "label method-value closure"},
		{"audit", "function-field array closure variadic"},
		{"gen", "variadic array embedding promoted method-value"},
		{"tally", "map range-map closure variadic"},
		{"console", "errors-as closure variadic"},
		{"span", "map delete closure method-value"},
		{"reach", "embedding promoted map method-value label method-expression"},
		{"lint", "iota closure range-function map"},
		{"mark", "closure label copy"},
		{"pct", "closure three-index method-value"},
		{"shrink", "label closure method-value"},
		{"dump", "method-value embedding promoted array variadic iota"},
		{"chart", "array range-function closure"},
		{"stress", "range-function map closure"},
	}
}
