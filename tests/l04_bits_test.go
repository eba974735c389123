package tests

import (
	"bytes"
	"math"
	"slices"
	"strconv"
	"strings"
	"testing"

	"loop.example/g00511/impl"
)

// notBits are elements that no bit string holds.
var notBits = []int{
	-1, 2, 3, -2, -3, 4, 5, 255, 256, 257, 1 << 32, 1<<32 + 1, math.MinInt32, math.MaxInt32,
	math.MinInt, math.MinInt + 1, math.MaxInt - 1, math.MaxInt,
}

// elements are the two bits and the elements that are none.
func elements() []int {
	return append([]int{0, 1}, notBits...)
}

// bitsOfText returns the bits that a text of zeros and ones shows, the first one first.
func bitsOfText(text string) []int {
	bits := []int{}
	for _, c := range text {
		bits = append(bits, int(c-'0'))
	}
	return bits
}

// binaryReference returns the count lowest bits of n, bit 0 first, from the standard library's binary form.
func binaryReference(n int, count int) []int {
	text := strings.Repeat("0", 64) + strconv.FormatInt(int64(n), 2)
	bits := bitsOfText(text[len(text)-count:])
	slices.Reverse(bits)
	return bits
}

// byteBitsReference returns the bits of the bytes, bit 0 of each byte first.
func byteBitsReference(data []byte) []int {
	bits := []int{}
	for _, b := range data {
		bits = append(bits, binaryReference(int(b), 8)...)
	}
	return bits
}

// isOdd decides by the last decimal digit, so no sign of a remainder is involved.
func isOdd(n int) bool {
	text := strconv.Itoa(n)
	return strings.Contains("13579", text[len(text)-1:])
}

// allBitStrings returns every bit string of the length.
func allBitStrings(length int) [][]int {
	list := [][]int{}
	for n := range 1 << length {
		list = append(list, binaryReference(n, length))
	}
	return list
}

// ones returns a list of count ones.
func ones(count int) []int {
	return slices.Repeat([]int{1}, count)
}

// with returns a copy of the list with v at index i.
func with(list []int, i int, v int) []int {
	changed := slices.Clone(list)
	changed[i] = v
	return changed
}

func expectNoBytesOfBits(t *testing.T, bits []int) {
	t.Helper()
	if got, ok := impl.BitsToBytes(bits); len(got) != 0 || ok {
		t.Errorf("BitsToBytes(%v) is %v, %v", bits, got, ok)
	}
}

func TestIsBitString(t *testing.T) {
	for _, bits := range [][]int{nil, {}, {0}, {1}, {0, 0}, {1, 1}, {0, 1, 1, 0}, ones(41), ones(1000), make([]int, 1000)} {
		if !impl.IsBitString(bits) {
			t.Errorf("IsBitString(%v) is false", bits)
		}
	}
	// One other element suffices, wherever it stands.
	for _, length := range []int{1, 2, 3, 8, 41} {
		for i := range length {
			for _, v := range notBits {
				if bits := with(ones(length), i, v); impl.IsBitString(bits) {
					t.Errorf("IsBitString(%v) is true", bits)
				}
				if bits := with(make([]int, length), i, v); impl.IsBitString(bits) {
					t.Errorf("IsBitString(%v) is true", bits)
				}
			}
		}
	}
}

func TestBytesToBits(t *testing.T) {
	for _, c := range []struct {
		data []byte
		want string
	}{
		{nil, ""}, {[]byte{}, ""},
		{[]byte{5}, "10100000"}, {[]byte{0}, "00000000"}, {[]byte{1}, "10000000"}, {[]byte{128}, "00000001"},
		{[]byte{255}, "11111111"}, {[]byte{127}, "11111110"}, {[]byte{2}, "01000000"}, {[]byte{0x35}, "10101100"},
		{[]byte{5, 128}, "1010000000000001"}, {[]byte{128, 5}, "0000000110100000"},
		{[]byte{1, 2, 4}, "100000000100000000100000"},
	} {
		if got := impl.BytesToBits(c.data); !slices.Equal(got, bitsOfText(c.want)) {
			t.Errorf("BytesToBits(%v) is %v, not %s", c.data, got, c.want)
		}
	}
}

// Every byte value, alone, among others, and at the start and the end of a long list.
func TestBytesToBitsOfAllBytes(t *testing.T) {
	for b := range 256 {
		for _, data := range [][]byte{{byte(b)}, {0, byte(b), 255}, {byte(b), byte(b)}, {255, 255 - byte(b), 0, byte(b)}} {
			if got, want := impl.BytesToBits(data), byteBitsReference(data); !slices.Equal(got, want) {
				t.Errorf("BytesToBits(%v) is %v, not %v", data, got, want)
			}
		}
	}
	long := slices.Repeat(allBytes(), 10)
	if got, want := impl.BytesToBits(long), byteBitsReference(long); !slices.Equal(got, want) {
		t.Errorf("BytesToBits of %d bytes is %v", len(long), got)
	}
}

func TestBitsToBytes(t *testing.T) {
	for _, c := range []struct {
		bits string
		want []byte
	}{
		{"", nil},
		{"10100000", []byte{5}}, {"00000000", []byte{0}}, {"10000000", []byte{1}}, {"00000001", []byte{128}},
		{"11111111", []byte{255}}, {"11111110", []byte{127}}, {"10101100", []byte{0x35}},
		{"1010000000000001", []byte{5, 128}}, {"0000000110100000", []byte{128, 5}},
		{"100000000100000000100000", []byte{1, 2, 4}},
	} {
		if got, ok := impl.BitsToBytes(bitsOfText(c.bits)); !bytes.Equal(got, c.want) || !ok {
			t.Errorf("BitsToBytes of %s is %v, %v, not %v", c.bits, got, ok, c.want)
		}
	}
	if got, ok := impl.BitsToBytes(nil); len(got) != 0 || !ok {
		t.Errorf("BitsToBytes(nil) is %v, %v", got, ok)
	}
}

func TestBitsToBytesRejectsLengths(t *testing.T) {
	for length := range 100 {
		for _, bits := range [][]int{make([]int, length), ones(length)} {
			if length%8 != 0 {
				expectNoBytesOfBits(t, bits)
				continue
			}
			want := bytes.Repeat([]byte{0}, length/8)
			if length > 0 && bits[0] == 1 {
				want = bytes.Repeat([]byte{255}, length/8)
			}
			if got, ok := impl.BitsToBytes(bits); !bytes.Equal(got, want) || !ok {
				t.Errorf("BitsToBytes of %d bits is %v, %v", length, got, ok)
			}
		}
	}
}

func TestBitsToBytesRejectsElements(t *testing.T) {
	for _, v := range notBits {
		for _, length := range []int{1, 7, 8, 9, 16, 24} {
			for i := range length {
				expectNoBytesOfBits(t, with(make([]int, length), i, v))
				expectNoBytesOfBits(t, with(ones(length), i, v))
			}
		}
	}
}

// Promise 4: bytes are restored from their bits, and bits from their bytes.
func TestBytesAreRestored(t *testing.T) {
	texts := [][]byte{nil, {}, []byte("hello"), allBytes(), bytes.Repeat([]byte{0}, 50), bytes.Repeat([]byte{255}, 50)}
	for a := range 256 {
		texts = append(texts, []byte{byte(a)})
		for b := range 256 {
			texts = append(texts, []byte{byte(a), byte(b)})
		}
	}
	for _, data := range texts {
		bits := impl.BytesToBits(data)
		if len(bits) != 8*len(data) || !impl.IsBitString(bits) {
			t.Errorf("BytesToBits(%v) is %v", data, bits)
		}
		if got, ok := impl.BitsToBytes(bits); !bytes.Equal(got, data) || !ok {
			t.Errorf("%v is restored as %v, %v", data, got, ok)
		}
	}
	for _, bits := range allBitStrings(16) {
		data, ok := impl.BitsToBytes(bits)
		if got := impl.BytesToBits(data); !slices.Equal(got, bits) || !ok {
			t.Errorf("%v is restored as %v", bits, got)
		}
	}
}

func TestXorBits(t *testing.T) {
	for _, c := range []struct {
		a, b, want []int
	}{
		{nil, nil, nil}, {[]int{}, []int{}, nil}, {nil, []int{1}, nil}, {[]int{1}, nil, nil}, {[]int{}, []int{1, 0}, nil},
		{[]int{0}, []int{0}, []int{0}}, {[]int{0}, []int{1}, []int{1}}, {[]int{1}, []int{0}, []int{1}}, {[]int{1}, []int{1}, []int{0}},
		{[]int{1, 0, 1}, []int{1, 1, 0}, []int{0, 1, 1}},
		// the shorter one ends the sums, on either side
		{[]int{1, 0, 1}, []int{1, 1}, []int{0, 1}}, {[]int{1, 1}, []int{1, 0, 1}, []int{0, 1}}, {[]int{1, 1, 1, 1}, []int{0}, []int{1}},
		// odd elements count as 1, all others as 0
		{[]int{3, 2, 4, 5}, []int{0, 0, 1, 1}, []int{1, 0, 1, 0}},
		{[]int{-1, -3, -1, -3}, []int{0, 0, 1, 1}, []int{1, 1, 0, 0}},
		{[]int{0, 1, 0, 1}, []int{-1, -1, -2, -2}, []int{1, 0, 0, 1}},
		{[]int{-1, -1, -2, -3}, []int{-1, 3, -1, -4}, []int{0, 0, 1, 1}},
		{[]int{math.MinInt, math.MaxInt, math.MinInt}, []int{0, 0, math.MaxInt}, []int{0, 1, 1}},
		{[]int{math.MinInt, math.MaxInt, math.MaxInt}, []int{math.MinInt, math.MaxInt, -1}, []int{0, 0, 0}},
	} {
		if got := impl.XorBits(c.a, c.b); !slices.Equal(got, c.want) {
			t.Errorf("XorBits(%v, %v) is %v, not %v", c.a, c.b, got, c.want)
		}
	}
	for _, x := range elements() {
		for _, y := range elements() {
			want := 0
			if isOdd(x) != isOdd(y) {
				want = 1
			}
			if got := impl.XorBits([]int{x}, []int{y}); !slices.Equal(got, []int{want}) {
				t.Errorf("XorBits of %d and %d is %v, not %d", x, y, got, want)
			}
		}
	}
}

// The sums are a bit string of the shorter length, and adding twice restores a bit string.
func TestXorBitsTwice(t *testing.T) {
	other := append(elements(), elements()...)
	for length := range 6 {
		for _, bits := range allBitStrings(length) {
			for count := range 8 {
				sums := impl.XorBits(bits, other[:count])
				if len(sums) != min(length, count) || !impl.IsBitString(sums) {
					t.Errorf("XorBits(%v, %v) is %v", bits, other[:count], sums)
				}
				if again := impl.XorBits(sums, other[:count]); !slices.Equal(again, bits[:len(sums)]) {
					t.Errorf("adding %v twice to %v is %v", other[:count], bits, again)
				}
			}
			if got := impl.XorBits(bits, bits); impl.Weight(got) != 0 || len(got) != length {
				t.Errorf("%v added to itself is %v", bits, got)
			}
		}
	}
}

func TestWeightAndParity(t *testing.T) {
	for _, c := range []struct {
		bits           []int
		weight, parity int
	}{
		{nil, 0, 0}, {[]int{}, 0, 0}, {[]int{0}, 0, 0}, {[]int{1}, 1, 1}, {[]int{1, 1}, 2, 0}, {[]int{1, 0, 1, 1}, 3, 1},
		{[]int{1, 0, 1, 0, 0, 0, 0, 0}, 2, 0}, {ones(41), 41, 1}, {ones(1000), 1000, 0},
		// only elements that are 1 count, odd or not
		{[]int{3}, 0, 0}, {[]int{-1}, 0, 0}, {[]int{2}, 0, 0}, {[]int{2, 1}, 1, 1}, {[]int{3, 1}, 1, 1}, {[]int{-1, 1}, 1, 1},
		{[]int{math.MaxInt, 1, math.MinInt}, 1, 1}, {[]int{1, -1, 1, 3}, 2, 0}, {[]int{257, 1<<32 + 1, 1}, 1, 1},
	} {
		if got := impl.Weight(c.bits); got != c.weight {
			t.Errorf("Weight(%v) is %d, not %d", c.bits, got, c.weight)
		}
		if got := impl.Parity(c.bits); got != c.parity {
			t.Errorf("Parity(%v) is %d, not %d", c.bits, got, c.parity)
		}
	}
	for _, v := range notBits {
		for i := range 5 {
			if got := impl.Weight(with(ones(5), i, v)); got != 4 {
				t.Errorf("with %d at index %d, the Weight is %d", v, i, got)
			}
			if got := impl.Parity(with(ones(5), i, v)); got != 0 {
				t.Errorf("with %d at index %d, the Parity is %d", v, i, got)
			}
		}
	}
}

func TestWeightOfAllBitStrings(t *testing.T) {
	for length := range 11 {
		for n, bits := range allBitStrings(length) {
			want := strings.Count(strconv.FormatInt(int64(n), 2), "1")
			if got := impl.Weight(bits); got != want {
				t.Errorf("Weight(%v) is %d", bits, got)
			}
			if got := impl.Parity(bits); got != want%2 {
				t.Errorf("Parity(%v) is %d", bits, got)
			}
		}
	}
}

func TestHammingDistance(t *testing.T) {
	for _, c := range []struct {
		a, b []int
		want int
	}{
		{nil, nil, 0}, {nil, []int{}, 0}, {[]int{}, []int{}, 0},
		{[]int{1, 0}, []int{1, 1, 0}, 2}, {[]int{1, 0}, []int{1, 0}, 0}, {[]int{1, 0}, []int{0, 1}, 2}, {[]int{1, 1, 1}, []int{1, 0, 1}, 1},
		// every index beyond the end of the shorter one counts, whatever stands there
		{nil, []int{0}, 1}, {nil, []int{0, 0, 1}, 3}, {[]int{1, 0, 0}, nil, 3}, {[]int{0}, []int{0, 0}, 1},
		{[]int{1, 1, 0, 0}, []int{0}, 4}, {[]int{1}, []int{1, 2, -1}, 2}, {ones(1000), ones(3), 997},
		// elements that are no bits differ as integers
		{[]int{2}, []int{0}, 1}, {[]int{2}, []int{2}, 0}, {[]int{3}, []int{1}, 1}, {[]int{-1}, []int{1}, 1}, {[]int{-1}, []int{-1}, 0},
		{[]int{2}, []int{3}, 1}, {[]int{math.MinInt}, []int{0}, 1}, {[]int{math.MinInt}, []int{math.MinInt}, 0},
		{[]int{math.MaxInt}, []int{math.MinInt}, 1}, {[]int{math.MaxInt, 1}, []int{1, math.MaxInt}, 2}, {[]int{-3, 5, 7}, []int{-3, 7, 7}, 1},
	} {
		if got := impl.HammingDistance(c.a, c.b); got != c.want {
			t.Errorf("HammingDistance(%v, %v) is %d, not %d", c.a, c.b, got, c.want)
		}
		if got := impl.HammingDistance(c.b, c.a); got != c.want {
			t.Errorf("HammingDistance(%v, %v) is %d, not %d", c.b, c.a, got, c.want)
		}
	}
	for i, x := range elements() {
		for j, y := range elements() {
			want := 1
			if i == j {
				want = 0
			}
			if got := impl.HammingDistance([]int{1, x, 0}, []int{1, y, 0}); got != want {
				t.Errorf("HammingDistance of %d and %d is %d", x, y, got)
			}
		}
	}
}

// Between bit strings of one length, the distance is the weight of the sums.
func TestHammingDistanceIsWeightOfSums(t *testing.T) {
	for length := range 6 {
		for _, a := range allBitStrings(length) {
			for _, b := range allBitStrings(length) {
				distance := impl.HammingDistance(a, b)
				if want := impl.Weight(impl.XorBits(a, b)); distance != want {
					t.Errorf("HammingDistance(%v, %v) is %d, not %d", a, b, distance, want)
				}
				if got := impl.HammingDistance(append([]int{1}, a...), append([]int{0}, b...)); got != distance+1 {
					t.Errorf("with 1 before %v and 0 before %v, the distance is %d, not %d", a, b, got, distance+1)
				}
			}
		}
	}
}

func TestIntToBits(t *testing.T) {
	for _, c := range []struct {
		n, count int
		want     string
	}{
		{6, 4, "0110"}, {0, 0, ""}, {0, 1, "0"}, {0, 5, "00000"}, {1, 0, ""}, {1, 1, "1"}, {2, 1, "0"}, {1, 3, "100"}, {5, 8, "10100000"},
		// of a greater n only the lowest bits are taken
		{6, 2, "01"}, {255, 4, "1111"}, {256, 8, "00000000"}, {257, 8, "10000000"}, {1000, 3, "000"}, {1023, 1, "1"},
		{1000000000000, 40, "0000000000001000101001010010101100010111"},
		{1<<40 - 1, 40, strings.Repeat("1", 40)}, {1 << 40, 40, strings.Repeat("0", 40)}, {1<<40 + 1, 40, "1" + strings.Repeat("0", 39)},
		{1 << 39, 40, strings.Repeat("0", 39) + "1"}, {1 << 39, 39, strings.Repeat("0", 39)},
		{math.MaxInt, 0, ""}, {math.MaxInt, 1, "1"}, {math.MaxInt, 40, strings.Repeat("1", 40)}, {math.MaxInt - 1, 40, "0" + strings.Repeat("1", 39)},
	} {
		if got := impl.IntToBits(c.n, c.count); !slices.Equal(got, bitsOfText(c.want)) {
			t.Errorf("IntToBits(%d, %d) is %v, not %s", c.n, c.count, got, c.want)
		}
	}
}

func TestIntToBitsRejects(t *testing.T) {
	for _, n := range []int{-1, -2, -6, -1 << 40, math.MinInt, math.MinInt + 1} {
		for _, count := range []int{-1, 0, 1, 4, 40, 41} {
			if got := impl.IntToBits(n, count); len(got) != 0 {
				t.Errorf("IntToBits(%d, %d) is %v", n, count, got)
			}
		}
	}
	for _, n := range []int{0, 1, 6, 1 << 40, math.MaxInt} {
		for _, count := range []int{-1, -2, -40, -41, math.MinInt, 41, 42, 63, 64, 65, 1 << 32, 1<<32 + 1, math.MaxInt} {
			if got := impl.IntToBits(n, count); len(got) != 0 {
				t.Errorf("IntToBits(%d, %d) is %v", n, count, got)
			}
		}
	}
}

func TestIntToBitsAgainstReference(t *testing.T) {
	numbers := []int{math.MaxInt, math.MaxInt - 1, 1000000000000, 1000000000001, 999999999999, 123456789012345}
	for i := range 63 {
		numbers = append(numbers, 1<<i, 1<<i-1, 1<<i+1)
	}
	for n := range 300 {
		numbers = append(numbers, n)
	}
	for _, n := range numbers {
		for count := range 41 {
			if got, want := impl.IntToBits(n, count), binaryReference(n, count); !slices.Equal(got, want) {
				t.Errorf("IntToBits(%d, %d) is %v, not %v", n, count, got, want)
			}
		}
	}
}

func TestBitsToInt(t *testing.T) {
	for _, c := range []struct {
		bits []int
		want int
	}{
		{nil, 0}, {[]int{}, 0}, {[]int{0}, 0}, {[]int{1}, 1}, {[]int{0, 1, 1, 0}, 6}, {[]int{0, 1, 1}, 6}, {[]int{1, 0, 0}, 1}, {[]int{0, 0, 1}, 4},
		{make([]int, 40), 0}, {ones(31), 2147483647}, {ones(32), 4294967295}, {ones(33), 8589934591}, {ones(39), 549755813887}, {ones(40), 1099511627775},
		{with(make([]int, 40), 39, 1), 549755813888}, {with(make([]int, 40), 0, 1), 1},
		{bitsOfText("0000000000001000101001010010101100010111"), 1000000000000},
		// more than 40 elements, also if the integer is small
		{make([]int, 41), 0}, {ones(41), 0}, {with(make([]int, 41), 0, 1), 0}, {with(make([]int, 41), 40, 1), 0},
		{ones(63), 0}, {ones(64), 0}, {ones(65), 0}, {ones(1000), 0},
	} {
		if got := impl.BitsToInt(c.bits); got != c.want {
			t.Errorf("BitsToInt(%v) is %d, not %d", c.bits, got, c.want)
		}
	}
}

func TestBitsToIntRejectsElements(t *testing.T) {
	for _, v := range notBits {
		for _, length := range []int{1, 2, 4, 40, 41} {
			for i := range length {
				if got := impl.BitsToInt(with(ones(length), i, v)); got != 0 {
					t.Errorf("BitsToInt of %d elements with %d at index %d is %d", length, v, i, got)
				}
			}
		}
	}
}

// Promise 4: integers are restored from their bits, and bits from their integer.
func TestIntegersAreRestored(t *testing.T) {
	numbers := []int{1000000000000, 999999999999, 1<<40 - 1}
	for i := range 40 {
		numbers = append(numbers, 1<<i, 1<<i-1)
	}
	for n := range 2000 {
		numbers = append(numbers, n, n*n*n)
	}
	for _, n := range numbers {
		for _, count := range []int{40, 39, 33, 32, 31, 20, 8, 3, 1, 0} {
			// What exceeds the count bits is lost.
			if got, want := impl.BitsToInt(impl.IntToBits(n, count)), n%(1<<count); got != want {
				t.Errorf("of %d in %d bits, %d is restored, not %d", n, count, got, want)
			}
		}
	}
	for length := range 13 {
		for n, bits := range allBitStrings(length) {
			if got := impl.BitsToInt(bits); got != n {
				t.Errorf("BitsToInt(%v) is %d, not %d", bits, got, n)
			}
			if got := impl.IntToBits(n, length); !slices.Equal(got, bits) {
				t.Errorf("%v is restored as %v", bits, got)
			}
		}
	}
}

func TestBitFunctionsKeepTheirArguments(t *testing.T) {
	for _, values := range [][]int{{}, {1}, {1, 0, 1, 1, 0, 0, 0, 1}, {1, -1, 3}} {
		bits := intsWithSpare(values...)
		other := intsWithSpare(1, 1, 0, -1)
		impl.IsBitString(bits)
		impl.Weight(bits)
		impl.Parity(bits)
		impl.BitsToInt(bits)
		impl.HammingDistance(bits, other)
		data, _ := impl.BitsToBytes(bits)
		spoil(append(data, 1))
		sums := impl.XorBits(bits, other)
		spoilInts(append(sums, 1))
		spoilInts(sums)
		spoilInts(impl.XorBits(other, bits))
		spoilInts(impl.XorBits(bits, bits))
		checkIntsSpare(t, "a function of bits", bits, values...)
		checkIntsSpare(t, "a function of bits", other, 1, 1, 0, -1)
	}
	b := withSpare(5, 128)
	spoilInts(impl.BytesToBits(b))
	checkSpare(t, "BytesToBits", b, 5, 128)
}

func TestResultsOfBitFunctionsShareNoMemory(t *testing.T) {
	for _, c := range []struct {
		name string
		call func() []int
		want string
	}{
		{"BytesToBits", func() []int { return impl.BytesToBits([]byte{5}) }, "10100000"},
		{"XorBits", func() []int { return impl.XorBits([]int{1, 1, 0}, []int{0, 1, 1}) }, "101"},
		{"IntToBits", func() []int { return impl.IntToBits(6, 4) }, "0110"},
	} {
		one, two := c.call(), c.call()
		spoilInts(one)
		if !slices.Equal(two, bitsOfText(c.want)) || !slices.Equal(c.call(), bitsOfText(c.want)) {
			t.Errorf("two results of %s share memory: %v", c.name, two)
		}
	}
	bits := bitsOfText("10100000")
	one, _ := impl.BitsToBytes(bits)
	two, _ := impl.BitsToBytes(bits)
	spoil(one)
	if !bytes.Equal(two, []byte{5}) {
		t.Errorf("two results of BitsToBytes share memory: %v", two)
	}
}
