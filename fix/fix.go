// Package fix is layer 1, numbers with thirty-two binary places: see shared/doc/01-fix.md.
package fix

import (
	"cmp"

	"outrigger/api"
)

// places is how many binary places a value has: api.One is 2^places.
const places = 32

// maxWhole is the greatest whole number that has a value: beyond it Of stops.
const maxWhole = api.Lim / api.One

// within is n, or the end that n lies beyond, and whether it lies beyond one. It is generic, as stopping at an end needs an order and nothing else: values and whole numbers stop alike, each at ends of their own.
func within[T cmp.Ordered](n, low, high T) (T, bool) {
	if n < low {
		return low, true
	}
	if n > high {
		return high, true
	}
	return n, false
}

// Clamp is what a number counts as, and whether it is another one.
func Clamp(n int) (int, bool) { return within(n, -api.Lim, api.Lim) }

// value is what a number counts as, for calls that do not tell whether it is another one.
func value(n int) int {
	v, _ := Clamp(n)
	return v
}

// Add is the sum, and whether something was clamped.
func Add(a, b int) (int, bool) {
	x, aOut := Clamp(a)
	y, bOut := Clamp(b)
	// Two values are far from the ends of int, so this sum does not wrap round.
	sum, out := Clamp(x + y)
	return sum, aOut || bOut || out
}

// Sub is the difference, and whether something was clamped.
func Sub(a, b int) (int, bool) {
	// b is clamped before it is turned: the least int has no number the other way round.
	y, bOut := Clamp(b)
	diff, out := Add(a, -y)
	return diff, bOut || out
}

// Neg is a value the other way round.
func Neg(a int) int { return -value(a) }

// Abs is a value without its sign.
func Abs(a int) int {
	v := value(a)
	return max(v, -v)
}

// Of is a whole number's value, and whether it was clamped.
func Of(n int) (int, bool) {
	// The whole number is stopped, not its product, which may wrap round.
	whole, out := within(n, -maxWhole, maxWhole)
	return whole * api.One, out
}

// Floor is the whole part.
func Floor(a int) int {
	// A shift, and not a quotient: that one would be cut towards 0 below it.
	return value(a) >> places
}

// Near is the nearest whole number.
func Near(a int) int { return (value(a) + api.One/2) >> places }

// Rest is what is beside the whole part.
func Rest(a int) int { return value(a) - Floor(a)*api.One }
