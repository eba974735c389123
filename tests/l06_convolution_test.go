package tests

import (
	"math"
	"math/big"
	"slices"
	"strings"
	"testing"

	"loop.example/g00511/impl"
)

// encoderSteps are all eight pairs of a state and a bit.
var encoderSteps = []struct{ state, bit, next, first, second int }{
	{0, 0, 0, 0, 0}, {0, 1, 1, 1, 1},
	{1, 0, 2, 1, 0}, {1, 1, 3, 0, 1},
	{2, 0, 0, 1, 1}, {2, 1, 1, 0, 0},
	{3, 0, 2, 0, 1}, {3, 1, 3, 1, 0},
}

// notEncoderStates are integers that are no states; the lowest bits of some of them are those of a state.
var notEncoderStates = []int{
	-1, 4, -2, -3, -4, 5, 6, 7, 8, 255, 256, 257, 1 << 32, 1<<32 + 1, 1<<32 + 3, -1<<32 + 2,
	math.MinInt, math.MinInt + 1, math.MinInt + 3, math.MaxInt - 1, math.MaxInt,
}

// notSymbols are elements that no symbol string holds.
var notSymbols = []int{-1, 3, -2, -3, 4, 5, 6, 255, 256, 257, 258, 1 << 32, 1<<32 + 2, -1<<32 + 1, math.MinInt, math.MinInt + 2, math.MaxInt - 1, math.MaxInt}

// multiply returns the product, modulo 2, of two polynomials whose coefficients are bits, that of the power 0 first.
func multiply(a []int, b []int) []int {
	product := make([]int, len(a)+len(b)-1)
	for i := range a {
		for j := range b {
			product[i+j] = (product[i+j] + a[i]*b[j]) % 2
		}
	}
	return product
}

// encodeReference multiplies the bits with the two polynomials of the code and takes the coefficients in turn.
func encodeReference(bits []int) []int {
	if len(bits) == 0 {
		return []int{0, 0, 0, 0}
	}
	symbols := []int{}
	first, second := multiply(bits, []int{1, 1, 1}), multiply(bits, []int{1, 0, 1})
	for i := range first {
		symbols = append(symbols, first[i], second[i])
	}
	return symbols
}

// numbered returns count elements that all differ and of which most are no symbols.
func numbered(count int) []int {
	list := make([]int, count)
	for i := range list {
		list[i] = 3*i - 50
	}
	return list
}

// withoutFourths returns the list without its fourth element, its eighth element and so on.
func withoutFourths(list []int) []int {
	kept := []int{}
	for chunk := range slices.Chunk(list, 4) {
		kept = append(kept, chunk[:min(len(chunk), 3)]...)
	}
	return kept
}

// erasedFourths returns the list with an erasure as its fourth element, its eighth element and so on.
func erasedFourths(list []int) []int {
	erased := slices.Clone(list)
	for i := 3; i < len(erased); i += 4 {
		erased[i] = impl.Erasure
	}
	return erased
}

// sampleBits are bit strings of many lengths.
func sampleBits() [][]int {
	list := [][]int{
		nil, {}, ones(1000), make([]int, 1000), impl.BytesToBits(allBytes()), impl.BytesToBits([]byte("hello")),
		bitsOfText(strings.Repeat("10", 300)), bitsOfText(strings.Repeat("110", 100)), with(make([]int, 500), 250, 1),
	}
	for length := range 10 {
		list = append(list, allBitStrings(length)...)
	}
	return list
}

func expectNoDepunctured(t *testing.T, symbols []int, count int) {
	t.Helper()
	if got := impl.Depuncture(symbols, count); len(got) != 0 {
		t.Errorf("Depuncture of %d symbols to %d is %v", len(symbols), count, got)
	}
}

func TestConstantsOfConvolution(t *testing.T) {
	if impl.Erasure != 2 || impl.TailBits != 2 {
		t.Error(impl.Erasure, impl.TailBits)
	}
}

func TestEncoderSteps(t *testing.T) {
	for _, c := range encoderSteps {
		if got := impl.NextState(c.state, c.bit); got != c.next {
			t.Errorf("NextState(%d, %d) is %d, not %d", c.state, c.bit, got, c.next)
		}
		if a, b := impl.OutputPair(c.state, c.bit); a != c.first || b != c.second {
			t.Errorf("OutputPair(%d, %d) is %d, %d, not %d, %d", c.state, c.bit, a, b, c.first, c.second)
		}
	}
}

// With a state or a bit out of range, there is neither a next state nor a pair, whatever the other one is.
func TestEncoderStepsOutOfRange(t *testing.T) {
	expectNoStep := func(state int, bit int) {
		t.Helper()
		if got := impl.NextState(state, bit); got != 0 {
			t.Errorf("NextState(%d, %d) is %d", state, bit, got)
		}
		if a, b := impl.OutputPair(state, bit); a != 0 || b != 0 {
			t.Errorf("OutputPair(%d, %d) is %d, %d", state, bit, a, b)
		}
	}
	for _, state := range notEncoderStates {
		for _, bit := range elements() {
			expectNoStep(state, bit)
		}
	}
	for state := range 4 {
		for _, bit := range notBits {
			expectNoStep(state, bit)
		}
	}
}

func TestConvolutionalEncode(t *testing.T) {
	for _, c := range []struct{ bits, want string }{
		{"", "0000"}, {"0", "000000"}, {"1", "111011"}, {"00", "00000000"}, {"01", "00111011"}, {"10", "11101100"}, {"11", "11010111"},
		{"101", "1110001011"}, {"111", "1101100111"}, {"1011", "111000010111"},
	} {
		if got := impl.ConvolutionalEncode(bitsOfText(c.bits)); !slices.Equal(got, bitsOfText(c.want)) {
			t.Errorf("ConvolutionalEncode of %s is %v, not %s", c.bits, got, c.want)
		}
	}
	for _, bits := range [][]int{nil, {}} {
		if got := impl.ConvolutionalEncode(bits); !slices.Equal(got, []int{0, 0, 0, 0}) {
			t.Errorf("ConvolutionalEncode(%v) is %v", bits, got)
		}
	}
}

func TestConvolutionalEncodeAgainstReference(t *testing.T) {
	for _, bits := range sampleBits() {
		got := impl.ConvolutionalEncode(bits)
		if want := encodeReference(bits); !slices.Equal(got, want) {
			t.Errorf("ConvolutionalEncode(%v) is %v, not %v", bits, got, want)
		}
		if want := impl.EncodedLength(len(bits)); len(got) != want || len(got) != 2*len(bits)+4 {
			t.Errorf("ConvolutionalEncode of %d bits has %d symbols, not %d", len(bits), len(got), want)
		}
	}
}

// The encoder makes the steps of NextState and OutputPair, and the tail returns it to state 0.
func TestConvolutionalEncodeMakesTheSteps(t *testing.T) {
	for _, bits := range sampleBits() {
		state := 0
		symbols := []int{}
		for _, bit := range slices.Concat(bits, []int{0, 0}) {
			a, b := impl.OutputPair(state, bit)
			symbols = append(symbols, a, b)
			state = impl.NextState(state, bit)
		}
		if got := impl.ConvolutionalEncode(bits); !slices.Equal(got, symbols) || state != 0 {
			t.Errorf("ConvolutionalEncode(%v) is %v, not %v, and the last state is %d", bits, got, symbols, state)
		}
	}
}

func TestConvolutionalEncodeRejects(t *testing.T) {
	for _, v := range notBits {
		for _, length := range []int{1, 2, 3, 8, 101} {
			for i := range length {
				for _, bits := range [][]int{with(make([]int, length), i, v), with(ones(length), i, v), with(with(ones(length), i, v), length-1, v)} {
					if got := impl.ConvolutionalEncode(bits); len(got) != 0 {
						t.Errorf("ConvolutionalEncode(%v) is %v", bits, got)
					}
				}
			}
		}
	}
}

// Promise 6: the code word of a sum is the sum of the code words.
func TestCodeIsLinear(t *testing.T) {
	expectSum := func(a []int, b []int) {
		t.Helper()
		got := impl.ConvolutionalEncode(impl.XorBits(a, b))
		want := impl.XorBits(impl.ConvolutionalEncode(a), impl.ConvolutionalEncode(b))
		if !slices.Equal(got, want) || len(got) != 2*len(a)+4 {
			t.Errorf("the code word of %v and %v added is %v, not %v", a, b, got, want)
		}
	}
	for length := range 8 {
		for _, a := range allBitStrings(length) {
			for _, b := range allBitStrings(length) {
				expectSum(a, b)
			}
		}
	}
	long := impl.BytesToBits(allBytes())
	for _, other := range [][]int{ones(len(long)), make([]int, len(long)), impl.Scramble(8, long), impl.Scramble(127, ones(len(long))), long} {
		expectSum(long, other)
		expectSum(other, long)
	}
}

// Promise 6: every code word is the sum of those of single ones.
func TestCodeWordsOfSingleOnes(t *testing.T) {
	for length := range 10 {
		for _, bits := range allBitStrings(length) {
			sum := make([]int, 2*length+4)
			for i, bit := range bits {
				if bit == 1 {
					sum = impl.XorBits(sum, impl.ConvolutionalEncode(with(make([]int, length), i, 1)))
				}
			}
			if got := impl.ConvolutionalEncode(bits); !slices.Equal(got, sum) {
				t.Errorf("ConvolutionalEncode(%v) is %v, not %v", bits, got, sum)
			}
		}
	}
	for length := range 40 {
		for i := range length {
			// A single one is encoded alike wherever it stands.
			want := slices.Concat(make([]int, 2*i), bitsOfText("111011"), make([]int, 2*(length-1-i)))
			if got := impl.ConvolutionalEncode(with(make([]int, length), i, 1)); !slices.Equal(got, want) {
				t.Errorf("with one of %d bits, the one at %d, the code word is %v", length, i, got)
			}
		}
	}
}

// Different bit strings have different code words.
func TestCodeWordsDiffer(t *testing.T) {
	for length := range 11 {
		seen := map[int]int{}
		for n, bits := range allBitStrings(length) {
			word := impl.BitsToInt(impl.ConvolutionalEncode(bits))
			if other, ok := seen[word]; ok {
				t.Errorf("of %d bits, %d and %d have one code word", length, other, n)
			}
			seen[word] = n
		}
	}
}

func TestEncodedLength(t *testing.T) {
	for _, c := range []struct{ count, want int }{
		{0, 4}, {1, 6}, {2, 8}, {3, 10}, {1000, 2004}, {1 << 32, 1<<33 + 4}, {999999999999, 2000000000002}, {1000000000000, 2000000000004},
		{-1, 0}, {-2, 0}, {-3, 0}, {-1000000000000, 0}, {math.MinInt, 0}, {math.MinInt + 1, 0}, {math.MinInt / 2, 0},
		{1000000000001, 0}, {1000000000002, 0}, {1 << 62, 0}, {1<<62 - 2, 0}, {math.MaxInt - 2, 0}, {math.MaxInt - 1, 0}, {math.MaxInt, 0},
	} {
		if got := impl.EncodedLength(c.count); got != c.want {
			t.Errorf("EncodedLength(%d) is %d, not %d", c.count, got, c.want)
		}
	}
}

func TestPuncture(t *testing.T) {
	for _, c := range []struct{ symbols, want string }{
		{"", ""}, {"1", "1"}, {"10", "10"}, {"101", "101"}, {"0001", "000"}, {"1110", "111"}, {"00010", "0000"}, {"111011", "11111"},
		{"1110111", "111111"}, {"11101110", "111111"}, {"111011101", "1111111"}, {"22212220", "222222"}, {"012201220", "0120120"},
	} {
		if got := impl.Puncture(bitsOfText(c.symbols)); !slices.Equal(got, bitsOfText(c.want)) {
			t.Errorf("Puncture of %s is %v, not %s", c.symbols, got, c.want)
		}
	}
	for _, symbols := range [][]int{nil, {}} {
		if got := impl.Puncture(symbols); len(got) != 0 {
			t.Errorf("Puncture(%v) is %v", symbols, got)
		}
	}
}

// The elements are kept as they are, symbols or not.
func TestPunctureOfOtherElements(t *testing.T) {
	for _, c := range []struct{ symbols, want []int }{
		{[]int{3}, []int{3}}, {[]int{-1, 3}, []int{-1, 3}}, {[]int{0, 1, 2, 3}, []int{0, 1, 2}}, {[]int{3, 2, 1, 0, -1}, []int{3, 2, 1, -1}},
		{[]int{math.MinInt, math.MaxInt, 7, -1, math.MinInt}, []int{math.MinInt, math.MaxInt, 7, math.MinInt}},
		{[]int{10, 11, 12, 13, 14, 15, 16, 17, 18}, []int{10, 11, 12, 14, 15, 16, 18}},
	} {
		if got := impl.Puncture(c.symbols); !slices.Equal(got, c.want) {
			t.Errorf("Puncture(%v) is %v, not %v", c.symbols, got, c.want)
		}
	}
	for count := range 50 {
		list := numbered(count)
		if got, want := impl.Puncture(list), withoutFourths(list); !slices.Equal(got, want) {
			t.Errorf("Puncture(%v) is %v, not %v", list, got, want)
		}
	}
	// Puncture has no limit of its own.
	long := numbered(20003)
	if got := impl.Puncture(long); !slices.Equal(got, withoutFourths(long)) {
		t.Errorf("Puncture of 20003 elements has %d elements", len(got))
	}
}

func TestDepuncture(t *testing.T) {
	for _, c := range []struct {
		symbols string
		count   int
		want    string
	}{
		{"", 0, ""}, {"1", 1, "1"}, {"10", 2, "10"}, {"101", 3, "101"}, {"101", 4, "1012"}, {"1010", 5, "10120"}, {"11111", 6, "111211"},
		{"111111", 7, "1112111"}, {"111111", 8, "11121112"}, {"1111111", 9, "111211121"}, {"222", 4, "2222"}, {"000000", 8, "00020002"},
		{"012012", 8, "01220122"},
	} {
		if got := impl.Depuncture(bitsOfText(c.symbols), c.count); !slices.Equal(got, bitsOfText(c.want)) {
			t.Errorf("Depuncture(%s, %d) is %v, not %s", c.symbols, c.count, got, c.want)
		}
	}
	for _, c := range []struct {
		symbols []int
		count   int
		want    []int
	}{
		{[]int{3}, 1, []int{3}}, {[]int{-1, 3, 5}, 3, []int{-1, 3, 5}}, {[]int{-1, 3, 5}, 4, []int{-1, 3, 5, 2}},
		{[]int{math.MinInt, math.MaxInt, 7, -1}, 5, []int{math.MinInt, math.MaxInt, 7, 2, -1}},
	} {
		if got := impl.Depuncture(c.symbols, c.count); !slices.Equal(got, c.want) {
			t.Errorf("Depuncture(%v, %d) is %v, not %v", c.symbols, c.count, got, c.want)
		}
	}
}

func TestDepunctureLimits(t *testing.T) {
	for _, c := range []struct{ count, length int }{{3999, 3000}, {4000, 3000}, {3998, 2999}, {3996, 2997}} {
		got := impl.Depuncture(numbered(c.length), c.count)
		if len(got) != c.count || !slices.Equal(withoutFourths(got), numbered(c.length)) || !slices.Equal(erasedFourths(got), got) {
			t.Errorf("Depuncture of %d symbols to %d has %d symbols", c.length, c.count, len(got))
		}
		expectNoDepunctured(t, numbered(c.length-1), c.count)
		expectNoDepunctured(t, numbered(c.length+1), c.count)
	}
	// Beyond the limit even the right number of symbols is rejected.
	for _, count := range []int{4001, 4002, 4003, 4004, 5000, 8000, 65536} {
		expectNoDepunctured(t, ones(count-count/4), count)
		expectNoDepunctured(t, ones(3000), count)
		expectNoDepunctured(t, ones(3001), count)
	}
	for _, count := range []int{-1, -2, -3, -4, -5, -4000, 4001, 1 << 32, 1<<32 + 4, -1<<32 + 4, math.MinInt, math.MinInt + 1, math.MinInt + 4, math.MaxInt - 1, math.MaxInt} {
		for length := range 6 {
			expectNoDepunctured(t, ones(length), count)
		}
		expectNoDepunctured(t, nil, count)
		expectNoDepunctured(t, ones(3000), count)
	}
}

// Of all numbers of symbols only one fits.
func TestDepunctureRejectsLengths(t *testing.T) {
	for count := range 30 {
		for length := range 40 {
			for _, symbols := range [][]int{ones(length), make([]int, length), numbered(length)} {
				got := impl.Depuncture(symbols, count)
				if length != count-count/4 {
					expectNoDepunctured(t, symbols, count)
				} else if len(got) != count {
					t.Errorf("Depuncture(%v, %d) is %v", symbols, count, got)
				}
			}
		}
	}
	for _, symbols := range [][]int{nil, {}} {
		expectNoDepunctured(t, symbols, 0)
		expectNoDepunctured(t, symbols, 1)
		expectNoDepunctured(t, symbols, 4)
	}
}

// Promise 6: every symbol that was removed is restored as an erasure, and every other one as it was.
func TestPuncturedSymbolsAreErasures(t *testing.T) {
	lists := [][]int{numbered(4000), numbered(3999), ones(3998), make([]int, 3997)}
	for count := range 60 {
		lists = append(lists, numbered(count), ones(count), make([]int, count))
	}
	for length := range 9 {
		lists = append(lists, allBitStrings(length)...)
		for _, bits := range allBitStrings(length) {
			lists = append(lists, impl.ConvolutionalEncode(bits))
		}
	}
	for _, list := range lists {
		punctured := impl.Puncture(list)
		if got := impl.PuncturedLength(len(list)); got != len(punctured) {
			t.Errorf("PuncturedLength(%d) is %d, not %d", len(list), got, len(punctured))
		}
		restored := impl.Depuncture(punctured, len(list))
		if want := erasedFourths(list); !slices.Equal(restored, want) {
			t.Errorf("%v is restored as %v, not %v", list, restored, want)
		}
		if again := impl.Puncture(restored); !slices.Equal(again, punctured) {
			t.Errorf("%v is punctured as %v, and again as %v", list, punctured, again)
		}
	}
}

func TestPuncturedLength(t *testing.T) {
	for _, c := range []struct{ count, want int }{
		{0, 0}, {1, 1}, {2, 2}, {3, 3}, {4, 3}, {5, 4}, {6, 5}, {7, 6}, {8, 6}, {9, 7}, {3999, 3000}, {4000, 3000}, {4001, 3001},
		{1000000000000, 750000000000}, {1000000000001, 750000000001}, {2000000000004, 1500000000003},
		{math.MaxInt, 6917529027641081856}, {math.MaxInt - 1, 6917529027641081855}, {math.MaxInt - 3, 6917529027641081853}, {math.MaxInt - 4, 6917529027641081853},
		{-1, 0}, {-2, 0}, {-3, 0}, {-4, 0}, {-5, 0}, {-4000, 0}, {math.MinInt, 0}, {math.MinInt + 1, 0}, {math.MinInt + 3, 0},
	} {
		if got := impl.PuncturedLength(c.count); got != c.want {
			t.Errorf("PuncturedLength(%d) is %d, not %d", c.count, got, c.want)
		}
	}
}

// Three of four symbols are kept, rounded up; the product is computed without a limit.
func TestPuncturedLengthAgainstReference(t *testing.T) {
	counts := []int{}
	for i := range 63 {
		for d := range 5 {
			counts = append(counts, 1<<i-1+d, math.MaxInt>>i-d)
		}
	}
	for n := range 1000 {
		counts = append(counts, n, math.MaxInt-n)
	}
	for _, count := range counts {
		if count < 0 {
			continue
		}
		want := new(big.Int).Mul(big.NewInt(int64(count)), big.NewInt(3))
		want.Div(want.Add(want, big.NewInt(3)), big.NewInt(4))
		if got := impl.PuncturedLength(count); int64(got) != want.Int64() {
			t.Errorf("PuncturedLength(%d) is %d, not %v", count, got, want)
		}
	}
}

func TestIsSymbolString(t *testing.T) {
	for _, symbols := range [][]int{nil, {}, {0}, {1}, {2}, {0, 1, 2}, {2, 2, 2}, ones(1000), make([]int, 1000), slices.Repeat([]int{2}, 1000)} {
		if !impl.IsSymbolString(symbols) {
			t.Errorf("IsSymbolString(%v) is false", symbols)
		}
	}
	// One other element suffices, wherever it stands.
	for _, v := range notSymbols {
		for _, length := range []int{1, 2, 3, 8, 41} {
			for i := range length {
				for _, symbols := range [][]int{ones(length), make([]int, length), slices.Repeat([]int{2}, length)} {
					if changed := with(symbols, i, v); impl.IsSymbolString(changed) {
						t.Errorf("IsSymbolString(%v) is true", changed)
					}
				}
			}
		}
	}
}

func TestConvolutionFunctionsKeepTheirArguments(t *testing.T) {
	for _, values := range [][]int{{}, {1}, {1, 0, 1}, {1, 0, 1, 1, 0, 0, 0, 1}, {1, 2, 0, 2, 1}, {1, -1, 3, 7, 9}} {
		list := intsWithSpare(values...)
		impl.IsSymbolString(list)
		results := [][]int{impl.ConvolutionalEncode(list), impl.Puncture(list)}
		for count := -1; count <= 12; count++ {
			results = append(results, impl.Depuncture(list, count))
		}
		for _, got := range results {
			spoilInts(append(got, 1))
			spoilInts(got)
			checkIntsSpare(t, "a function of symbols", list, values...)
		}
	}
}

// Also where nothing is removed or inserted, the result is not the argument.
func TestResultsOfConvolutionFunctionsShareNoMemory(t *testing.T) {
	for _, c := range []struct {
		name string
		call func() []int
		want string
	}{
		{"ConvolutionalEncode", func() []int { return impl.ConvolutionalEncode([]int{1}) }, "111011"},
		{"ConvolutionalEncode of no bits", func() []int { return impl.ConvolutionalEncode(nil) }, "0000"},
		{"Puncture", func() []int { return impl.Puncture([]int{1, 1, 1, 0, 1, 1}) }, "11111"},
		{"Puncture of three", func() []int { return impl.Puncture([]int{1, 0, 2}) }, "102"},
		{"Depuncture", func() []int { return impl.Depuncture([]int{1, 1, 1, 1, 1}, 6) }, "111211"},
		{"Depuncture of three", func() []int { return impl.Depuncture([]int{1, 0, 2}, 3) }, "102"},
	} {
		one, two := c.call(), c.call()
		spoilInts(one)
		if !slices.Equal(two, bitsOfText(c.want)) || !slices.Equal(c.call(), bitsOfText(c.want)) {
			t.Errorf("two results of %s share memory: %v", c.name, two)
		}
	}
}
