// Package fix: numbers that do not wrap: see doc/01-fix.md.
package fix

import "math/bits"

// top is the greatest number.
const top = 1<<64 - 1

// Add is the sum of a and b; top, if it is greater.
func Add(a, b uint64) uint64 {
	sum, carry := bits.Add64(a, b, 0)
	if carry != 0 {
		return top
	}
	return sum
}

// Sub is a less b; 0, if b is greater.
func Sub(a, b uint64) uint64 {
	if b > a {
		return 0
	}
	return a - b
}

// Mul is the product of a and b; top, if it is greater.
func Mul(a, b uint64) uint64 {
	high, low := bits.Mul64(a, b)
	if high != 0 {
		return top
	}
	return low
}

// MulDiv is the whole part of a times b by c; top, if it is greater or c is 0.
func MulDiv(a, b, c uint64) uint64 {
	high, low := bits.Mul64(a, b)
	// The quotient fits exactly if high is below c, and bits.Div64 panics otherwise; a c of 0 is met here too.
	if high >= c {
		return top
	}
	quotient, _ := bits.Div64(high, low, c)
	return quotient
}

// Sqrt is the greatest whole number whose square is at most n.
func Sqrt(n uint64) uint64 {
	return SqrtMul(n, 1)
}

// SqrtMul is the greatest whole number whose square is at most a times b.
func SqrtMul(a, b uint64) uint64 {
	high, low := bits.Mul64(a, b)
	// The root is less than 2 to the half of the product's bits, so no higher bit need be tried.
	root := uint64(0)
	for k := (productLen(high, low) + 1) / 2; k > 0; k-- {
		next := root | 1<<(k-1)
		if squareFits(next, high, low) {
			root = next
		}
	}
	return root
}

// productLen is how many bits the number of the words high and low takes.
func productLen(high, low uint64) int {
	if high != 0 {
		return 64 + bits.Len64(high)
	}
	return bits.Len64(low)
}

// squareFits tells whether the square of n is at most the number of the words high and low.
func squareFits(n, high, low uint64) bool {
	h, l := bits.Mul64(n, n)
	return h < high || h == high && l <= low
}
