package impl

import "strconv"

// MaxValue is the largest integer that the encodings of this module carry.
const MaxValue = 1000000000000

// FormatInt returns the decimal representation of n.
func FormatInt(n int) string {
	return strconv.Itoa(n)
}

// ParseInt returns the integer from 0 to MaxValue whose decimal representation is s.
func ParseInt(s string) (int, bool) {
	n, err := strconv.Atoi(s)
	if err != nil || !InRange(n, 0, MaxValue) {
		return 0, false
	}
	// Atoi also takes signs and leading zeros; only the canonical form is accepted.
	if FormatInt(n) != s {
		return 0, false
	}
	return n, true
}

// Min returns the smaller of a and b.
func Min(a int, b int) int {
	least, _ := extremes(a, b)
	return least
}

// Max returns the larger of a and b.
func Max(a int, b int) int {
	_, greatest := extremes(a, b)
	return greatest
}

// extremes returns the least and the greatest of its arguments. The first one
// stands apart because no arguments at all have no extremes.
func extremes(first int, rest ...int) (int, int) {
	least, greatest := first, first
	for _, n := range rest {
		if n < least {
			least = n
		}
		if n > greatest {
			greatest = n
		}
	}
	return least, greatest
}

// CeilDiv returns a divided by b, rounded up, or 0 if a or b is out of range.
func CeilDiv(a int, b int) int {
	if !InRange(a, 0, MaxValue) || !InRange(b, 1, MaxValue) {
		return 0
	}
	// The limits keep this sum far from the greatest int.
	return (a + b - 1) / b
}

// Mod returns the remainder of p modulo q from 0 to q-1, or 0 if q is out of range.
func Mod(p int, q int) int {
	if !InRange(q, 1, MaxValue) {
		return 0
	}
	remainder := p % q
	// Go's remainder has the sign of p.
	if remainder < 0 {
		remainder += q
	}
	return remainder
}

// InRange reports whether low <= n and n <= high.
func InRange(n int, low int, high int) bool {
	return low <= n && n <= high
}
