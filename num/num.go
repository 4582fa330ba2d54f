// Package num is layer 1: division rounded down, clamping, sums and products
// that stay within an int, square roots, and parts of exact products.
package num

import (
	"cmp"
	"math"
	"math/bits"
)

// clamp is n, or the bound that it has passed; low is asked first.
func clamp[T cmp.Ordered](n, low, high T) T {
	if n < low {
		return low
	}
	if n > high {
		return high
	}
	return n
}

// Div is a divided by b, rounded down; 0 for a divisor below 1.
func Div(a, b int) int {
	if b < 1 {
		return 0
	}
	quotient := a / b
	// The language rounds toward 0, which is one too many below 0 if something is left.
	if a%b < 0 {
		quotient--
	}
	return quotient
}

// Mod is what Div leaves of a, from 0 to b - 1; 0 for a divisor below 1.
func Mod(a, b int) int {
	if b < 1 {
		return 0
	}
	rest := a % b
	if rest < 0 {
		rest += b
	}
	return rest
}

// Hold is n, held between low and high.
func Hold(n, low, high int) int {
	return clamp(n, low, high)
}

// Plus is the sum, held within the ints.
func Plus(a, b int) int {
	// What may be added to a is clamped, so that the sum itself never wraps.
	return a + clamp(b, math.MinInt-min(a, 0), math.MaxInt-max(a, 0))
}

// Times is the product, held within the ints.
func Times(a, b int) int {
	over, size := bits.Mul64(magnitude(a), magnitude(b))
	if over > 0 {
		size = math.MaxUint64
	}
	if (a < 0) != (b < 0) {
		// There is one more number below 0 than above: the least int has no positive twin.
		return int(-clamp(size, 0, math.MaxInt+1))
	}
	return int(clamp(size, 0, math.MaxInt))
}

// magnitude is n without its sign; unsigned, since that of the least int is no int.
func magnitude(n int) uint64 {
	if n < 0 {
		return -uint64(n)
	}
	return uint64(n)
}

// Root is the square root, rounded down.
func Root(n uint64) int {
	root := uint64(0)
	// The root has half as many bits as n; found bit by bit, no square passes 64 bits.
	for bit := uint64(1) << ((bits.Len64(n) + 1) / 2) >> 1; bit > 0; bit >>= 1 {
		if next := root | bit; next*next <= n {
			root = next
		}
	}
	return int(root)
}

// Part is a times b, divided by c, rounded down; false if c is 0, or the result has more than 64 bits.
func Part(a, b, c uint64) (uint64, bool) {
	hi, lo := bits.Mul64(a, b)
	// The quotient has 64 bits just if the upper half is less than the divisor, which also rules out 0.
	if hi >= c {
		return 0, false
	}
	part, _ := bits.Div64(hi, lo, c)
	return part, true
}
