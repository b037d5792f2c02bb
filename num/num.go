// Package num is layer 1: it formats and parses decimal integers, and calculates with integers whose results are limited to the range from -MaxNum to MaxNum (shared/doc/01-num.md).
package num

import (
	"math/bits"
	"strconv"

	"agora/api"
)

// Text returns the canonical form of n.
func Text(n int) string { return strconv.Itoa(n) }

// Parse returns the integer from low to high whose canonical form is s, and true, or 0 and false if there is none.
func Parse(s string, low, high int) (int, bool) {
	n, err := strconv.Atoi(s)
	// Atoi also accepts a plus sign, leading zeros and -0, none of which Text writes.
	if err != nil || Text(n) != s || n < low || n > high {
		return 0, false
	}
	return n, true
}

// Clamp returns low if n is less than low; otherwise high if n is greater than high; otherwise n.
func Clamp(n, low, high int) int {
	if n < low {
		return low
	}
	if n > high {
		return high
	}
	return n
}

// Add returns a + b, limited.
func Add(a, b int) int {
	return limited(func() (bool, uint64, uint64) {
		return sum(a < 0, size(a), b < 0, size(b))
	})
}

// Sub returns a - b, limited. It negates b as a sign and a size, since -b overflows for the least int.
func Sub(a, b int) int {
	return limited(func() (bool, uint64, uint64) {
		return sum(a < 0, size(a), b >= 0, size(b))
	})
}

// Mul returns a * b, limited.
func Mul(a, b int) int {
	return limited(func() (bool, uint64, uint64) {
		high, low := bits.Mul64(size(a), size(b))
		return (a < 0) != (b < 0), high, low
	})
}

// Div returns a / b, rounded toward zero and limited, and true, or 0 and false if b is 0.
func Div(a, b int) (int, bool) {
	if b == 0 {
		return 0, false
	}
	return limited(func() (bool, uint64, uint64) {
		return (a < 0) != (b < 0), 0, size(a) / size(b)
	}), true
}

// Mod returns the remainder of Div's exact quotient, limited, and true, or 0 and false if b is 0.
func Mod(a, b int) (int, bool) {
	if b == 0 {
		return 0, false
	}
	return limited(func() (bool, uint64, uint64) {
		return a < 0, 0, size(a) % size(b)
	}), true
}

// limited returns the exact result of an operation, limited. The operation returns the sign of its result and the two words of the absolute value, because a sum or product of two ints need not fit into one.
func limited(operation func() (negative bool, high, low uint64)) int {
	negative, high, low := operation()
	if high != 0 || low > api.MaxNum {
		low = api.MaxNum
	}
	if negative {
		return -int(low)
	}
	return int(low)
}

// sum returns the sign and the two words of the absolute value of the sum of two integers that are given by their signs and absolute values.
func sum(minusX bool, x uint64, minusY bool, y uint64) (negative bool, high, low uint64) {
	if minusX == minusY {
		low, high = bits.Add64(x, y, 0)
		return minusX, high, low
	}
	if x < y {
		return minusY, 0, y - x
	}
	return minusX, 0, x - y
}

// size returns the absolute value of n, which for the least int does not fit into an int.
func size(n int) uint64 {
	if n < 0 {
		return -uint64(n)
	}
	return uint64(n)
}
