package glob_test

import (
	"fmt"
	"math"
	"testing"

	. "escapement/glob"
)

func is(t *testing.T, what string, want string, got ...any) {
	t.Helper()
	if s := fmt.Sprintln(got...); s != want+"\n" {
		t.Errorf("%s: %s, not %s", what, s, want)
	}
}

func get(q *Queue) string {
	g, ok := q.Get()
	return fmt.Sprint(g, ok)
}

func TestNew(t *testing.T) { // P1601
	q := New()
	is(t, "nobody", "0 []", q.Len(), q.List())
	q.Put(3, 1)
	q.Front([]int{5, 4})
	is(t, "in order", "4 [5 4 3 1]", q.Len(), q.List())
	q.List()[0] = 9
	is(t, "new memory", "[5 4 3 1]", q.List())
}

func TestPutFrontGetRemove(t *testing.T) { // P1602
	q := New()
	is(t, "Put", "2 2 3 [1 2 1]", q.Put(1, 0, 2, -5), q.Put(), q.Put(1), q.List())
	l := []int{7, -1, 8, 0}
	is(t, "Front", "5 5 [7 8 1 2 1] [7 -1 8 0]", q.Front(l), q.Front(nil), q.List(), l)
	is(t, "Remove", "true [7 8 2 1] false true true [8 1]", q.Remove(1), q.List(), q.Remove(9), q.Remove(2), q.Remove(7), q.List())
	is(t, "Get", "8 true 1 true 0 false", get(q), get(q), get(q))
	q.Put(1, 2, 3)
	is(t, "one", "1 true", get(q))
	q.Put(4)
	q.Front([]int{9})
	is(t, "mixed", "9 true 2 true [3 4]", get(q), get(q), q.List())
	is(t, "of none", "false false", q.Remove(0), q.Remove(-1))
}

func TestManyBatch(t *testing.T) { // P1603
	for _, c := range [][4]int{
		{7, 3, 128, 3}, {7, 3, 2, 2}, {7, 1, 128, 7}, {1, 100, 9, 1}, {7, 7, 9, 2}, {7, 8, 9, 1}, {0, 1, 1, 0}, {-1, 1, 1, 0}, {5, 0, 1, 0}, {5, -1, 1, 0}, {5, 1, 0, 0}, {5, 1, -3, 0},
		{math.MaxInt, 1, math.MaxInt, math.MaxInt}, {math.MaxInt, 2, math.MaxInt, math.MaxInt/2 + 1}, {math.MaxInt, math.MaxInt, math.MaxInt, 2}, {math.MinInt, math.MinInt, math.MinInt, 0}, {2, 2, 9, 2},
	} {
		is(t, fmt.Sprint("Many ", c), fmt.Sprint(c[3]), Many(c[0], c[1], c[2]))
	}
	q := New()
	q.Put(1, 2, 3, 4, 5, 6, 7)
	is(t, "Batch", "[1 2 3] [4 5 6 7]", q.Batch(3, 128), q.List())
	is(t, "most", "[4] [] [] [5 6 7]", q.Batch(1, 1), q.Batch(0, 5), q.Batch(1, 0), q.List())
	is(t, "all", "[5 6 7] []", q.Batch(1, 128), q.Batch(1, 128))
}

func TestNil(t *testing.T) { // P1601 to P1603
	var q *Queue
	is(t, "nil", "0 0 0 0 false [] false []", q.Len(), q.Put(1), q.Front([]int{1}), get(q), q.Batch(1, 1), q.Remove(1), q.List())
}

func TestLaw(t *testing.T) { // P1604
	seed := uint64(2)
	below := func(n int) int {
		seed = seed*6364136223846793005 + 1442695040888963407
		return int(seed >> 33 % uint64(n))
	}
	q := New()
	var row []int
	many := 0
	for range 4000 {
		switch below(5) {
		case 0, 1:
			many++
			q.Put(many)
			row = append(row, many)
		case 2:
			many += 2
			q.Front([]int{many - 1, many})
			row = append([]int{many - 1, many}, row...)
		case 3:
			if g, ok := q.Get(); ok != (len(row) > 0) || ok && g != row[0] {
				t.Fatal("out of order", g, row)
			} else if ok {
				row = row[1:]
			}
		case 4:
			l := q.Batch(1+below(4), 1+below(9))
			if fmt.Sprint(l) != fmt.Sprint(row[:len(l)]) {
				t.Fatal("out of order", l, row)
			}
			row = row[len(l):]
		}
		if fmt.Sprint(q.List()) != fmt.Sprint(row) {
			t.Fatal("lost", q.List(), row)
		}
	}
}
