package tests

import (
	"math"
	"math/big"
	"strconv"
	"strings"
	"testing"

	"loop.example/g00511/impl"
)

// integers holds values around every limit of chapter 1.
func integers() []int {
	list := []int{
		math.MinInt, math.MinInt + 1, math.MaxInt - 1, math.MaxInt,
		math.MinInt32, math.MaxInt32, math.MaxInt32 + 1, math.MaxUint32, math.MaxUint32 + 1,
		-impl.MaxValue - 1, -impl.MaxValue, -impl.MaxValue + 1,
		impl.MaxValue/2 - 1, impl.MaxValue / 2, impl.MaxValue/2 + 1,
		impl.MaxValue - 1, impl.MaxValue, impl.MaxValue + 1,
		99, 100, 101, 120, 999999999999,
	}
	for n := -15; n <= 15; n++ {
		list = append(list, n)
	}
	return list
}

func TestMaxValue(t *testing.T) {
	if impl.MaxValue != 1000000000000 {
		t.Errorf("MaxValue is %d", impl.MaxValue)
	}
}

func TestFormatInt(t *testing.T) {
	cases := map[int]string{
		0: "0", 7: "7", 10: "10", 17: "17", 120: "120",
		-1: "-1", -3: "-3", -10: "-10",
		impl.MaxValue:     "1000000000000",
		impl.MaxValue + 1: "1000000000001",
		-impl.MaxValue:    "-1000000000000",
		math.MaxInt:       "9223372036854775807",
		math.MinInt:       "-9223372036854775808",
	}
	for n, want := range cases {
		if got := impl.FormatInt(n); got != want {
			t.Errorf("FormatInt(%d) is %q, not %q", n, got, want)
		}
	}
	for _, n := range integers() {
		if got, want := impl.FormatInt(n), big.NewInt(int64(n)).String(); got != want {
			t.Errorf("FormatInt(%d) is %q, not %q", n, got, want)
		}
	}
}

func TestParseIntAccepts(t *testing.T) {
	cases := map[string]int{
		"0": 0, "1": 1, "9": 9, "10": 10, "17": 17, "100": 100,
		"2147483648":    2147483648,
		"4294967296":    4294967296,
		"999999999999":  999999999999,
		"1000000000000": impl.MaxValue,
	}
	for s, want := range cases {
		if n, ok := impl.ParseInt(s); n != want || !ok {
			t.Errorf("ParseInt(%q) is %d, %v", s, n, ok)
		}
	}
	for n := range 2000 {
		if got, ok := impl.ParseInt(strconv.Itoa(n)); got != n || !ok {
			t.Errorf("ParseInt of %d is %d, %v", n, got, ok)
		}
	}
}

func TestParseIntRejects(t *testing.T) {
	cases := []string{
		// empty and blank
		"", " ", "\t", "\n", "\x00",
		// signs
		"-", "+", "-0", "+0", "-1", "+1", "-17", "+17", "--1", "1-", "1+", "-1000000000000",
		// leading zeros
		"00", "01", "017", "000", "0000000000001", "01000000000000", "00000000000000000000017",
		// other characters around or between digits
		"1x", "x1", "1x2", "17a", "0a", "a", "1 ", " 1", "1\n", "1\x00", "1.0", "1,000", "1_000", "1e3",
		// other bases and other digits
		"0x1", "0b1", "0o7", "1f", "\u0661", "\uff11", "1\u0662", "\xff", "1\xff",
		// the characters next to the digits in ASCII
		"/", ":", "1/", "1:",
		// beyond the limits, also those that wrap around to small integers
		"1000000000001", "1000000000010", "9999999999999", "10000000000000",
		"9223372036854775807", "9223372036854775808", "-9223372036854775808", "-9223372036854775809",
		"18446744073709551615", "18446744073709551616", "18446744073709551617", "18446744073709551633",
		"340282366920938463463374607431768211457",
		strings.Repeat("9", 10000), strings.Repeat("0", 10000), "1" + strings.Repeat("0", 10000),
	}
	for _, s := range cases {
		if n, ok := impl.ParseInt(s); n != 0 || ok {
			t.Errorf("ParseInt(%q) is %d, %v", s, n, ok)
		}
	}
}

// A string is accepted exactly if it is the decimal form of an integer in the range.
func TestParseIntInvertsFormatInt(t *testing.T) {
	for _, n := range integers() {
		want := 0
		inside := n >= 0 && n <= 1000000000000
		if inside {
			want = n
		}
		if got, ok := impl.ParseInt(impl.FormatInt(n)); got != want || ok != inside {
			t.Errorf("ParseInt(FormatInt(%d)) is %d, %v", n, got, ok)
		}
	}
}

// All strings of up to three of these bytes: accepted are those that are some integer's decimal form.
func TestParseIntShortStrings(t *testing.T) {
	canonical := map[string]int{}
	for n := range 1000 {
		canonical[strconv.Itoa(n)] = n
	}
	level := []string{""}
	for range 3 {
		var next []string
		for _, s := range level {
			for _, c := range []byte("0123456789+-_ xa.") {
				next = append(next, s+string(rune(c)))
			}
		}
		for _, s := range next {
			want, inside := canonical[s]
			if got, ok := impl.ParseInt(s); got != want || ok != inside {
				t.Errorf("ParseInt(%q) is %d, %v", s, got, ok)
			}
		}
		level = next
	}
}

func TestMinAndMax(t *testing.T) {
	for _, c := range [][4]int{
		{2, -1, -1, 2}, {-1, 2, -1, 2}, {3, 3, 3, 3}, {0, 0, 0, 0}, {-5, -4, -5, -4},
		{1, 2, 1, 2}, {2, 1, 1, 2}, {-2, -1, -2, -1}, {0, 1, 0, 1}, {-1, 0, -1, 0},
		{math.MinInt, math.MaxInt, math.MinInt, math.MaxInt},
		{math.MaxInt, math.MinInt, math.MinInt, math.MaxInt},
		{math.MinInt, 1, math.MinInt, 1}, {math.MaxInt, -1, -1, math.MaxInt},
		{math.MinInt, math.MinInt, math.MinInt, math.MinInt},
		{math.MaxInt, math.MaxInt, math.MaxInt, math.MaxInt},
	} {
		if got := impl.Min(c[0], c[1]); got != c[2] {
			t.Errorf("Min(%d, %d) is %d", c[0], c[1], got)
		}
		if got := impl.Max(c[0], c[1]); got != c[3] {
			t.Errorf("Max(%d, %d) is %d", c[0], c[1], got)
		}
	}
	for _, a := range integers() {
		for _, b := range integers() {
			least, greatest := impl.Min(a, b), impl.Max(a, b)
			if least != min(a, b) || greatest != max(a, b) {
				t.Errorf("Min and Max of %d, %d are %d, %d", a, b, least, greatest)
			}
		}
	}
}

func TestCeilDiv(t *testing.T) {
	const limit = 1000000000000
	for _, c := range [][3]int{
		{7, 3, 3}, {6, 3, 2}, {1, 3, 1}, {3, 1, 3}, {5, 5, 1}, {4, 5, 1}, {6, 5, 2},
		{0, 1, 0}, {0, 7, 0}, {0, limit, 0}, {1, limit, 1},
		{limit, 1, limit}, {limit, 2, 500000000000}, {limit, 3, 333333333334},
		{limit, limit, 1}, {limit, limit - 1, 2}, {limit - 1, limit, 1},
		// a or b out of range
		{-1, 1, 0}, {-1, 2, 0}, {-7, 3, 0}, {-limit, 1, 0}, {limit + 1, 1, 0}, {limit + 1, limit, 0},
		{1, 0, 0}, {1, -1, 0}, {7, -3, 0}, {-7, -3, 0}, {0, 0, 0},
		{1, limit + 1, 0}, {limit, limit + 1, 0}, {limit + 1, limit + 1, 0},
		{math.MaxInt, 1, 0}, {math.MaxInt, 2, 0}, {1, math.MaxInt, 0}, {math.MaxInt, math.MaxInt, 0},
		{math.MinInt, 1, 0}, {math.MinInt, -1, 0}, {1, math.MinInt, 0}, {math.MinInt, math.MinInt, 0},
	} {
		if got := impl.CeilDiv(c[0], c[1]); got != c[2] {
			t.Errorf("CeilDiv(%d, %d) is %d, not %d", c[0], c[1], got, c[2])
		}
	}
	for a := range 60 {
		for b := 1; b <= 20; b++ {
			q := impl.CeilDiv(a, b)
			if q*b < a || (q-1)*b >= a {
				t.Errorf("CeilDiv(%d, %d) is %d", a, b, q)
			}
		}
	}
}

func TestMod(t *testing.T) {
	const limit = 1000000000000
	for _, c := range [][3]int{
		{-1, 7, 6}, {15, 7, 1}, {0, 7, 0}, {7, 7, 0}, {6, 7, 6}, {8, 7, 1},
		{-7, 7, 0}, {-8, 7, 6}, {-6, 7, 1}, {-14, 7, 0}, {5, 1, 0}, {-5, 1, 0},
		{limit, limit, 0}, {limit + 1, limit, 1}, {limit - 1, limit, limit - 1},
		{-1, limit, limit - 1}, {-limit, limit, 0}, {-limit - 1, limit, limit - 1},
		{math.MaxInt, limit, 36854775807}, {math.MinInt, limit, 963145224192},
		{math.MaxInt, 7, 0}, {math.MinInt, 7, 6}, {math.MinInt, 1, 0}, {math.MinInt, 2, 0},
		// q out of range
		{3, 0, 0}, {-3, 0, 0}, {3, -1, 0}, {15, -7, 0}, {-1, -7, 0},
		{3, limit + 1, 0}, {-1, limit + 1, 0}, {3, math.MaxInt, 0}, {3, math.MinInt, 0},
		{math.MinInt, -1, 0}, {math.MinInt, math.MinInt, 0}, {math.MaxInt, math.MaxInt - 1, 0},
	} {
		if got := impl.Mod(c[0], c[1]); got != c[2] {
			t.Errorf("Mod(%d, %d) is %d, not %d", c[0], c[1], got, c[2])
		}
	}
}

// The reference is the Euclidean remainder of math/big.
func TestModAgainstReference(t *testing.T) {
	for _, p := range integers() {
		for _, q := range integers() {
			want := 0
			if q >= 1 && q <= 1000000000000 {
				want = int(new(big.Int).Mod(big.NewInt(int64(p)), big.NewInt(int64(q))).Int64())
			}
			if got := impl.Mod(p, q); got != want {
				t.Errorf("Mod(%d, %d) is %d, not %d", p, q, got, want)
			}
		}
	}
}

func TestInRange(t *testing.T) {
	for _, c := range []struct {
		n, low, high int
		want         bool
	}{
		{2, 2, 3, true}, {3, 2, 3, true}, {1, 2, 3, false}, {4, 2, 3, false},
		{5, 5, 5, true}, {4, 5, 5, false}, {6, 5, 5, false},
		{-2, -3, -1, true}, {0, -3, -1, false}, {-4, -3, -1, false},
		// an empty range contains nothing, not even its limits
		{2, 3, 2, false}, {3, 3, 2, false}, {2, 3, 1, false},
		{0, math.MinInt, math.MaxInt, true},
		{math.MinInt, math.MinInt, math.MaxInt, true}, {math.MaxInt, math.MinInt, math.MaxInt, true},
		{math.MinInt, math.MinInt + 1, math.MaxInt, false}, {math.MaxInt, math.MinInt, math.MaxInt - 1, false},
		{math.MinInt, 0, math.MaxInt, false}, {math.MaxInt, math.MinInt, 0, false},
		{0, math.MaxInt, math.MinInt, false},
	} {
		if got := impl.InRange(c.n, c.low, c.high); got != c.want {
			t.Errorf("InRange(%d, %d, %d) is %v", c.n, c.low, c.high, got)
		}
	}
}
