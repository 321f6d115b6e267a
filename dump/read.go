package dump

import (
	"strings"

	"escapement/api"
	"escapement/asm"
)

// The parts of a text, in their order.
const (
	nothing = iota
	heading
	goroutines
	processors
	machines
	ending
)

// reader: what was read of a snap, and the part of the last line.
type reader struct {
	api.Snap
	part int
}

// come: may a line of a part come now?
func (r *reader) come(part int) bool {
	ok := r.part < ending && part >= r.part && (part == heading) == (r.part == nothing)
	r.part = part
	return ok
}

// reading: what reads the lines that begin with a word; nil: none do.
func (r *reader) reading(word string) func(words []string) bool {
	switch word {
	case "holder":
		return r.holder
	case "g":
		return r.goroutine
	case "p":
		return r.processor
	case "m":
		return r.machine
	case "global":
		return r.global
	}
	return nil
}

// line: is it as it must be here?
func (r *reader) line(line string) bool {
	words := strings.Split(line, " ")
	read := r.reading(words[0])
	return read != nil && read(words[1:])
}

// numbers: of words; false: one is none, or there are fewer than least.
func numbers(words []string, least int) ([]int, bool) {
	var l []int
	for _, word := range words {
		n, ok := asm.Number(word)
		if !ok {
			return nil, false
		}
		l = append(l, int(n))
	}
	return l, len(l) >= least
}

func (r *reader) holder(words []string) bool {
	l, ok := numbers(words, 1)
	if !ok || len(l) > 1 {
		return false
	}
	r.Holder = l[0]
	return r.come(heading)
}

func (r *reader) goroutine(words []string) bool {
	if !r.come(goroutines) || len(words) < 3 || len(r.Status) == api.MaxGs {
		return false
	}
	id, ok := asm.Number(words[0])
	word, is := Status(words[1])
	t, right := thread(words[2:])
	r.Status, r.Threads = append(r.Status, word), append(r.Threads, t)
	return ok && id == int64(len(r.Status)) && is && right
}

// thread: of words.
func thread(words []string) (api.Thread, bool) {
	if len(words) == 1 && words[0] == doneWord {
		return api.Thread{Done: true}, true
	}
	l, ok := numbers(words, 2+api.MaxRegs)
	if !ok || len(l)%2 != 0 {
		return api.Thread{}, false
	}
	t := api.Thread{Func: l[0], PC: l[1]}
	for i := range t.Regs {
		t.Regs[i] = int64(l[2+i])
	}
	for l = l[2+api.MaxRegs:]; len(l) > 0; l = l[2:] {
		t.Stack = append(t.Stack, api.Frame{Func: l[0], PC: l[1]})
	}
	return t, rightThread(t)
}

func (r *reader) processor(words []string) bool {
	l, ok := numbers(words, 4)
	if !r.come(processors) || !ok || l[0] != len(r.PStatus) || l[0] == api.MaxProcs || !rightStatus(l[1]) {
		return false
	}
	r.PStatus, r.PM, r.Counts = append(r.PStatus, l[1]), append(r.PM, l[2]), append(r.Counts, l[3])
	r.Queues = append(r.Queues, l[4:])
	return true
}

func (r *reader) machine(words []string) bool {
	last := len(words) - 1
	if !r.come(machines) || last != 3 || words[last] != parkedWord && words[last] != notWord {
		return false
	}
	l, ok := numbers(words[:last], last)
	if !ok || l[0] != len(r.MP) || l[0] == api.MaxMs {
		return false
	}
	r.MP, r.MG, r.Parked = append(r.MP, l[1]), append(r.MG, l[2]), append(r.Parked, words[last] == parkedWord)
	return true
}

func (r *reader) global(words []string) bool {
	l, ok := numbers(words, 0)
	r.Global = l
	return r.come(ending) && ok
}

// Parse: the snap of a text; or the number of the first line that is not as it must be there.
func Parse(t string) (api.Snap, int, api.Fault) {
	var r reader
	for number := 1; t != "" || r.part < ending; number++ {
		line, rest, ended := strings.Cut(t, "\n")
		if !ended || !r.line(line) {
			return api.Snap{}, number, api.Syntax
		}
		t = rest
	}
	if r.Holder < 0 || r.Holder > len(r.Status) {
		return api.Snap{}, 1, api.Syntax
	}
	return r.Snap, 0, api.OK
}
