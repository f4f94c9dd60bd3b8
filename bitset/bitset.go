// Package bitset is layer 1: sets of numbers from 0 to 255. See shared/doc/01-bitset.md.
package bitset

import (
	"math/bits"

	"accesscontrol/api"
)

const (
	wordBits = 64
	size     = len(api.Set{}) * wordBits
)

// Of returns the set of the numbers of l that are from 0 to 255; others have no effect.
func Of(l ...int) api.Set {
	var s api.Set
	for _, n := range l {
		s = With(s, n)
	}
	return s
}

// All returns the set of the numbers from 0 to n - 1; empty if n is not positive, all 256 if n is at least 256.
func All(n int) api.Set {
	var s api.Set
	for m := range min(n, size) {
		s = With(s, m)
	}
	return s
}

// Has reports whether n is an element.
func Has(s api.Set, n int) bool {
	return inRange(n) && s[n/wordBits]&bit(n) != 0
}

// With returns s and n; s if n is not from 0 to 255.
func With(s api.Set, n int) api.Set {
	if inRange(n) {
		s[n/wordBits] |= bit(n)
	}
	return s
}

// Without returns s without n; s if n is not from 0 to 255.
func Without(s api.Set, n int) api.Set {
	if inRange(n) {
		s[n/wordBits] &^= bit(n)
	}
	return s
}

// Union returns the elements of a or b.
func Union(a, b api.Set) api.Set {
	for i := range len(a) {
		a[i] |= b[i]
	}
	return a
}

// Meet returns the elements of both a and b.
func Meet(a, b api.Set) api.Set {
	for i := range len(a) {
		a[i] &= b[i]
	}
	return a
}

// Minus returns the elements of a that are not in b.
func Minus(a, b api.Set) api.Set {
	for i := range len(a) {
		a[i] &^= b[i]
	}
	return a
}

// Within reports whether each element of a is one of b.
func Within(a, b api.Set) bool {
	return Meet(a, b) == a
}

// Count returns the number of elements.
func Count(s api.Set) int {
	n := 0
	for _, word := range s {
		n += bits.OnesCount64(word)
	}
	return n
}

// Least returns the least element, -1 if there is none.
func Least(s api.Set) int {
	for n := range size {
		if Has(s, n) {
			return n
		}
	}
	return -1
}

// List returns the elements, ascending.
func List(s api.Set) []int {
	l := make([]int, 0, Count(s))
	for n := range size {
		if Has(s, n) {
			l = append(l, n)
		}
	}
	return l
}

func inRange(n int) bool { return 0 <= n && n < size }

func bit(n int) uint64 { return 1 << (n % wordBits) }
