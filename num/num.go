// Package num is layer 1: numbers that go round. See shared/doc/01-num.md.
package num

import "iter"

// most: how many places a walk has, and how far its step goes, at most.
const most = 1024

// Mod: what i leaves by n, from 0 on.
func Mod(i, n int) int {
	if n < 1 {
		return 0
	}
	left := i % n
	if left < 0 {
		left += n
	}
	return left
}

// Less: is a ahead of b, on a ring of 2^32 numbers?
func Less(a, b uint32) bool {
	d := Dist(a, b)
	return d > 0 && d < 1<<31
}

// Dist: how far b lies behind a.
func Dist(a, b uint32) uint32 { return b - a }

// Gcd: the greatest number that divides both.
func Gcd(a, b int) int {
	if a < 0 || b < 0 {
		return 0
	}
divide:
	for {
		switch {
		case b == 0:
			break divide
		case a < b:
			a, b = b, a
		default:
			a, b = b, a%b
		}
	}
	return a
}

// Coprimes: the numbers from 1 to n that have no divisor with n but 1.
func Coprimes(n int) []int {
	if n < 1 || n > most {
		return nil
	}
	var l []int
	for i := range n {
		if Gcd(i+1, n) == 1 {
			l = append(l, i+1)
		}
	}
	return l
}

// Walk: n places, from start on, step by step, round.
func Walk(n, start, step int) iter.Seq[int] {
	if n < 1 || n > most || step < 1 || step > most {
		return func(func(int) bool) {}
	}
	return func(yield func(int) bool) {
		at := Mod(start, n)
		for range n {
			if !yield(at) {
				return
			}
			at = Mod(at+step, n)
		}
	}
}
