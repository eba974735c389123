package tests

import (
	"math"
	"math/rand/v2"
	"slices"
	"strings"
	"testing"

	"loop.example/g00511/impl"
)

// allSymbolStrings returns every symbol string of the length.
func allSymbolStrings(length int) [][]int {
	list := [][]int{{}}
	for range length {
		longer := [][]int{}
		for _, symbols := range list {
			for symbol := range 3 {
				longer = append(longer, append(slices.Clone(symbols), symbol))
			}
		}
		list = longer
	}
	return list
}

// codeWords returns the code words of all bit strings of the length, in the order of allBitStrings.
func codeWords(length int) [][]int {
	list := [][]int{}
	for _, bits := range allBitStrings(length) {
		list = append(list, encodeReference(bits))
	}
	return list
}

// mismatches counts the symbols that are a bit and not that of the code word.
func mismatches(word []int, symbols []int) int {
	count := 0
	for i, symbol := range symbols {
		if symbol == 1-word[i] {
			count++
		}
	}
	return count
}

// searchReference returns the number of the nearest code word, and its distance.
// The bit string with the lower number comes first when the last bits are compared first.
func searchReference(words [][]int, symbols []int) (int, int) {
	nearest, least := 0, mismatches(words[0], symbols)
	for n, word := range words {
		if d := mismatches(word, symbols); d < least {
			nearest, least = n, d
		}
	}
	return nearest, least
}

// wholePath is a path of the reference: all of its bits as text, the last one first.
type wholePath struct {
	text     string
	distance int
}

// decodeReference keeps the best whole path for each pair of last bits, and compares the texts of equally good ones.
func decodeReference(symbols []int) ([]int, int) {
	// Two zeros stand for the bits before the first one.
	paths := map[string]wholePath{"00": {"00", 0}}
	for pair := range slices.Chunk(symbols, 2) {
		next := map[string]wholePath{}
		for _, path := range paths {
			for _, bit := range []string{"0", "1"} {
				text := bit + path.text
				recent := bitsOfText(text[:3])
				output := []int{(recent[0] + recent[1] + recent[2]) % 2, (recent[0] + recent[2]) % 2}
				distance := path.distance + mismatches(output, pair)
				old, ok := next[text[:2]]
				if !ok || distance < old.distance || distance == old.distance && text < old.text {
					next[text[:2]] = wholePath{text, distance}
				}
			}
		}
		paths = next
	}
	best := paths["00"]
	bits := bitsOfText(best.text[2 : len(best.text)-2])
	slices.Reverse(bits)
	return bits, best.distance
}

// flipped returns a copy of the symbols in which those at the positions are inverted.
func flipped(symbols []int, positions ...int) []int {
	changed := slices.Clone(symbols)
	for _, p := range positions {
		changed[p] = 1 - changed[p]
	}
	return changed
}

// erased returns a copy of the symbols in which those from start to end are erased.
func erased(symbols []int, start int, end int) []int {
	return slices.Concat(symbols[:start], erasures(end-start), symbols[end:])
}

// erasures returns a list of count erasures.
func erasures(count int) []int {
	return slices.Repeat([]int{2}, count)
}

// randomSymbols returns count symbols below the limit, so a limit of 2 excludes erasures.
func randomSymbols(random *rand.Rand, count int, limit int) []int {
	symbols := make([]int, count)
	for i := range symbols {
		symbols[i] = random.IntN(limit)
	}
	return symbols
}

// disturbed returns the symbols with about one of rate of them replaced by a symbol below the limit.
func disturbed(random *rand.Rand, symbols []int, rate int, limit int) []int {
	changed := slices.Clone(symbols)
	for i := range changed {
		if random.IntN(rate) == 0 {
			changed[i] = random.IntN(limit)
		}
	}
	return changed
}

// receivedSymbols returns symbol strings for count bits: noise, disturbed code words, and erasures at the beginning, in the middle, at the end and everywhere.
func receivedSymbols(random *rand.Rand, count int) [][]int {
	length := 2*count + 4
	third := length / 3
	list := [][]int{make([]int, length), ones(length), erasures(length)}
	for _, symbols := range [][]int{
		randomSymbols(random, length, 2), randomSymbols(random, length, 3),
		encodeReference(randomSymbols(random, count, 2)), encodeReference(ones(count)),
	} {
		for _, changed := range [][]int{symbols, disturbed(random, symbols, 10, 2), disturbed(random, symbols, 5, 3), disturbed(random, symbols, 2, 3)} {
			list = append(list, changed, erased(changed, 0, third), erased(changed, third, 2*third), erased(changed, 2*third, length),
				erased(changed, 0, 2*third), erased(changed, third, length), erasedFourths(changed))
		}
	}
	return list
}

func expectDecoded(t *testing.T, symbols []int, bits []int, distance int) {
	t.Helper()
	got, d := impl.ViterbiDecode(symbols)
	if !slices.Equal(got, bits) || d != distance {
		t.Errorf("ViterbiDecode(%v) is %v, %d, not %v, %d", symbols, got, d, bits, distance)
	}
	// Promise 7: the bits explain the symbols with the distance that is returned.
	if p := impl.PathDistance(got, symbols); p != distance {
		t.Errorf("PathDistance(%v, %v) is %d, not %d", got, symbols, p, distance)
	}
}

func expectNotDecoded(t *testing.T, symbols []int) {
	t.Helper()
	if got, d := impl.ViterbiDecode(symbols); len(got) != 0 || d != -1 {
		t.Errorf("ViterbiDecode(%v) is %v, %d", symbols, got, d)
	}
}

func expectNoPathDistance(t *testing.T, bits []int, symbols []int) {
	t.Helper()
	if got := impl.PathDistance(bits, symbols); got != -1 {
		t.Errorf("PathDistance(%v, %v) is %d", bits, symbols, got)
	}
}

func TestConstantsOfDecoding(t *testing.T) {
	if impl.MaxInputBits != 1000 {
		t.Error(impl.MaxInputBits)
	}
}

func TestBranchDistance(t *testing.T) {
	for _, c := range []struct{ state, bit, a, b, want int }{
		{1, 1, 0, 1, 0}, {1, 1, 0, 2, 0}, {1, 1, 2, 1, 0}, {1, 1, 2, 2, 0}, {1, 1, 1, 1, 1}, {1, 1, 0, 0, 1}, {1, 1, 1, 0, 2},
		{1, 1, 1, 2, 1}, {1, 1, 2, 0, 1}, {0, 1, 0, 0, 2}, {3, 0, 1, 0, 2}, {2, 0, 1, 1, 0},
		// any other number differs from a bit
		{0, 0, 3, 3, 2}, {0, 0, -1, 0, 1}, {0, 1, 1, -1, 1}, {0, 1, 3, 2, 1}, {3, 1, math.MinInt, math.MaxInt, 2}, {0, 0, 2, math.MinInt, 1},
		// without a step, the pair is 0, 0
		{-1, 0, 0, 0, 0}, {4, 1, 1, 1, 2}, {0, 2, 0, 1, 1}, {0, -1, 1, 2, 1}, {4, 2, 2, 2, 0},
	} {
		if got := impl.BranchDistance(c.state, c.bit, c.a, c.b); got != c.want {
			t.Errorf("BranchDistance(%d, %d, %d, %d) is %d, not %d", c.state, c.bit, c.a, c.b, got, c.want)
		}
	}
}

// expectBranchDistances compares BranchDistance for every pair of symbols with that to the pair of bits.
func expectBranchDistances(t *testing.T, state int, bit int, first int, second int) {
	t.Helper()
	list := append([]int{0, 1, 2}, notSymbols...)
	for _, a := range list {
		for _, b := range list {
			want := 0
			if a != 2 && a != first {
				want++
			}
			if b != 2 && b != second {
				want++
			}
			if got := impl.BranchDistance(state, bit, a, b); got != want {
				t.Errorf("BranchDistance(%d, %d, %d, %d) is %d, not %d", state, bit, a, b, got, want)
			}
		}
	}
}

func TestBranchDistanceOfAllArguments(t *testing.T) {
	for _, c := range encoderSteps {
		expectBranchDistances(t, c.state, c.bit, c.first, c.second)
	}
	for _, state := range notEncoderStates {
		for _, bit := range elements() {
			expectBranchDistances(t, state, bit, 0, 0)
		}
	}
	for state := range 4 {
		for _, bit := range notBits {
			expectBranchDistances(t, state, bit, 0, 0)
		}
	}
}

func TestPathDistance(t *testing.T) {
	for _, c := range []struct {
		bits, symbols string
		want          int
	}{
		{"", "0000", 0}, {"", "1111", 4}, {"", "2222", 0}, {"", "1020", 1}, {"0", "000000", 0}, {"0", "111011", 5},
		{"1", "111011", 0}, {"1", "101011", 1}, {"1", "000000", 5}, {"1", "000100", 6}, {"1", "222222", 0}, {"1", "222122", 1}, {"1", "011012", 1},
		{"10", "11101100", 0}, {"01", "11101100", 6}, {"11", "22101111", 3},
	} {
		if got := impl.PathDistance(bitsOfText(c.bits), bitsOfText(c.symbols)); got != c.want {
			t.Errorf("PathDistance(%s, %s) is %d, not %d", c.bits, c.symbols, got, c.want)
		}
	}
	for _, bits := range [][]int{nil, {}} {
		if got := impl.PathDistance(bits, []int{0, 1, 2, 1}); got != 2 {
			t.Errorf("PathDistance(%v, 0121) is %d", bits, got)
		}
		expectNoPathDistance(t, bits, nil)
		expectNoPathDistance(t, bits, []int{})
	}
}

func TestPathDistanceAgainstReference(t *testing.T) {
	random := rand.New(rand.NewPCG(7, 1))
	for _, bits := range sampleBits() {
		word := encodeReference(bits)
		for _, symbols := range receivedSymbols(random, len(bits)) {
			if got, want := impl.PathDistance(bits, symbols), mismatches(word, symbols); got != want {
				t.Errorf("PathDistance(%v, %v) is %d, not %d", bits, symbols, got, want)
			}
		}
		for _, c := range []struct {
			symbols []int
			want    int
		}{{word, 0}, {erasures(len(word)), 0}, {impl.XorBits(word, ones(len(word))), len(word)}, {flipped(word, len(word)-1), 1}} {
			if got := impl.PathDistance(bits, c.symbols); got != c.want {
				t.Errorf("PathDistance(%v, %v) is %d, not %d", bits, c.symbols, got, c.want)
			}
		}
	}
	// PathDistance has no limit of its own.
	if got := impl.PathDistance(ones(1001), encodeReference(ones(1001))); got != 0 {
		t.Errorf("the distance of 1001 bits is %d", got)
	}
	if got := impl.PathDistance(ones(5000), flipped(encodeReference(ones(5000)), 0, 7000, 10003)); got != 3 {
		t.Errorf("the distance of 5000 bits is %d", got)
	}
}

// One element that is no bit or no symbol suffices, wherever it stands.
func TestPathDistanceRejectsElements(t *testing.T) {
	for _, length := range []int{1, 2, 3, 8, 41} {
		for _, bits := range [][]int{ones(length), make([]int, length)} {
			word := encodeReference(bits)
			for i := range length {
				for _, v := range notBits {
					expectNoPathDistance(t, with(bits, i, v), word)
					expectNoPathDistance(t, with(bits, i, v), erasures(len(word)))
				}
			}
			for i := range word {
				for _, v := range notSymbols {
					expectNoPathDistance(t, bits, with(word, i, v))
					expectNoPathDistance(t, bits, with(erasures(len(word)), i, v))
				}
			}
		}
	}
	for i := range 4 {
		for _, v := range notSymbols {
			expectNoPathDistance(t, nil, with(make([]int, 4), i, v))
		}
	}
	expectNoPathDistance(t, []int{2}, []int{3, 3})
	// Neither list is cut off where it stops being one of bits or symbols.
	expectNoPathDistance(t, []int{1, 2}, encodeReference([]int{1}))
	expectNoPathDistance(t, []int{2}, []int{0, 0, 0, 0})
	expectNoPathDistance(t, []int{2}, nil)
}

// For every bit string only one number of symbols fits.
func TestPathDistanceRejectsLengths(t *testing.T) {
	for count := range 12 {
		for length := range 32 {
			if length == 2*count+4 {
				continue
			}
			for _, bits := range [][]int{ones(count), make([]int, count)} {
				expectNoPathDistance(t, bits, make([]int, length))
				expectNoPathDistance(t, bits, erasures(length))
			}
		}
	}
	for _, bits := range sampleBits() {
		word := encodeReference(bits)
		expectNoPathDistance(t, bits, word[1:])
		expectNoPathDistance(t, bits, word[:len(word)-1])
		expectNoPathDistance(t, bits, word[:len(word)-2])
		expectNoPathDistance(t, bits, append(slices.Clone(word), 0))
		expectNoPathDistance(t, bits, append(slices.Clone(word), 2, 2))
	}
}

func TestInputLength(t *testing.T) {
	for _, c := range []struct{ count, want int }{
		{4, 0}, {6, 1}, {8, 2}, {2002, 999}, {2004, 1000},
		{-1, -1}, {0, -1}, {1, -1}, {2, -1}, {3, -1}, {5, -1}, {7, -1}, {2003, -1}, {2005, -1}, {2006, -1}, {2007, -1}, {2008, -1},
		{-2, -1}, {-3, -1}, {-4, -1}, {-6, -1}, {-2004, -1}, {4000, -1}, {2000000000004, -1}, {1 << 32, -1}, {1<<32 + 6, -1}, {-1<<32 + 6, -1}, {1<<62 + 6, -1},
		{math.MinInt, -1}, {math.MinInt + 1, -1}, {math.MinInt + 4, -1}, {math.MinInt + 6, -1}, {math.MaxInt, -1}, {math.MaxInt - 1, -1},
	} {
		if got := impl.InputLength(c.count); got != c.want {
			t.Errorf("InputLength(%d) is %d, not %d", c.count, got, c.want)
		}
	}
}

func TestInputLengthInvertsEncodedLength(t *testing.T) {
	lengths := map[int]int{}
	for n := range 1001 {
		lengths[impl.EncodedLength(n)] = n
	}
	for count := -50; count < 5000; count++ {
		want, ok := lengths[count]
		if !ok {
			want = -1
		}
		if got := impl.InputLength(count); got != want {
			t.Errorf("InputLength(%d) is %d, not %d", count, got, want)
		}
	}
}

func TestViterbiDecode(t *testing.T) {
	for _, c := range []struct {
		symbols, bits string
		distance      int
	}{
		{"0000", "", 0}, {"1111", "", 4}, {"2222", "", 0}, {"1202", "", 1},
		{"000000", "0", 0}, {"111011", "1", 0}, {"101011", "1", 1}, {"222222", "0", 0}, {"222122", "0", 1}, {"122222", "1", 0}, {"222221", "1", 0},
		{"11101100", "10", 0}, {"00111011", "01", 0}, {"11010111", "11", 0}, {"1110001011", "101", 0}, {"0110001010", "101", 2},
		{"22222222", "00", 0}, {"22222221", "01", 0},
	} {
		expectDecoded(t, bitsOfText(c.symbols), bitsOfText(c.bits), c.distance)
	}
}

// Of equally good bit strings the one with a 0 as the last differing bit is returned.
func TestViterbiDecodeOfEquallyGoodBits(t *testing.T) {
	for _, c := range []struct {
		symbols, bits string
		distance      int
	}{
		// 0 and 1
		{"112000", "0", 2}, {"000012", "0", 1}, {"110020", "0", 2}, {"222022", "0", 0},
		// the symbols that 10 and 01, 01 and 11, 00 and 11 have in common
		{"22121222", "10", 0}, {"22212211", "01", 0}, {"22020222", "00", 0},
		// with every symbol erased, only zeros
		{strings.Repeat("2", 4), "", 0}, {strings.Repeat("2", 10), "000", 0}, {strings.Repeat("2", 44), strings.Repeat("0", 20), 0},
	} {
		expectDecoded(t, bitsOfText(c.symbols), bitsOfText(c.bits), c.distance)
	}
	expectDecoded(t, erasures(2004), make([]int, 1000), 0)
}

// Every symbol string of four to ten symbols is decoded to what a search over all bit strings finds.
func TestViterbiDecodeOfAllShortSymbols(t *testing.T) {
	for count := range 4 {
		all, words := allBitStrings(count), codeWords(count)
		for _, symbols := range allSymbolStrings(2*count + 4) {
			n, distance := searchReference(words, symbols)
			expectDecoded(t, symbols, all[n], distance)
		}
	}
}

// The bits are the nearest of all bit strings, and of equally good ones the first.
func TestViterbiDecodeAgainstSearch(t *testing.T) {
	random := rand.New(rand.NewPCG(7, 2))
	for count := 4; count <= 10; count++ {
		all, words := allBitStrings(count), codeWords(count)
		for range 10 {
			for _, symbols := range receivedSymbols(random, count) {
				n, distance := searchReference(words, symbols)
				expectDecoded(t, symbols, all[n], distance)
				if bits, d := decodeReference(symbols); !slices.Equal(bits, all[n]) || d != distance {
					t.Errorf("the reference decodes %v to %v, %d", symbols, bits, d)
				}
			}
		}
	}
}

func TestViterbiDecodeOfLongSymbols(t *testing.T) {
	random := rand.New(rand.NewPCG(7, 3))
	for _, count := range []int{0, 1, 2, 3, 11, 12, 20, 39, 40, 41, 64, 100, 255, 256, 257, 999, 1000} {
		for _, symbols := range receivedSymbols(random, count) {
			bits, distance := decodeReference(symbols)
			expectDecoded(t, symbols, bits, distance)
		}
	}
}

func TestViterbiDecodeRejectsLengths(t *testing.T) {
	for _, symbols := range [][]int{nil, {}} {
		expectNotDecoded(t, symbols)
	}
	for _, length := range []int{1, 2, 3, 5, 7, 9, 11, 99, 2001, 2003, 2005, 2006, 2007, 2008, 4000, 4004, 10000} {
		for _, symbols := range [][]int{make([]int, length), ones(length), erasures(length)} {
			expectNotDecoded(t, symbols)
		}
	}
	expectNotDecoded(t, encodeReference(ones(1001)))
	expectDecoded(t, encodeReference(ones(1000)), ones(1000), 0)
	expectDecoded(t, make([]int, 2004), make([]int, 1000), 0)
}

// One element that is no symbol suffices, wherever it stands.
func TestViterbiDecodeRejectsElements(t *testing.T) {
	for _, v := range notSymbols {
		for _, length := range []int{1, 2, 3, 4, 5, 6, 8, 20} {
			for i := range length {
				for _, symbols := range [][]int{make([]int, length), ones(length), erasures(length)} {
					expectNotDecoded(t, with(symbols, i, v))
				}
			}
		}
		for _, i := range []int{0, 1, 1001, 2001, 2002, 2003} {
			expectNotDecoded(t, with(make([]int, 2004), i, v))
			expectNotDecoded(t, with(encodeReference(ones(1000)), i, v))
		}
		expectNotDecoded(t, []int{v, v, v, v})
	}
}

// Promise 7: one and two inverted symbols are corrected, wherever they are.
func TestTwoErrorsAreCorrected(t *testing.T) {
	for length := range 9 {
		for _, bits := range allBitStrings(length) {
			word := impl.ConvolutionalEncode(bits)
			expectDecoded(t, word, bits, 0)
			for i := range word {
				expectDecoded(t, flipped(word, i), bits, 1)
				for j := range i {
					expectDecoded(t, flipped(word, i, j), bits, 2)
				}
			}
		}
	}
}

// Promise 7: in long code words too, the errors being near to each other or far apart.
func TestTwoErrorsInLongCodeWordsAreCorrected(t *testing.T) {
	random := rand.New(rand.NewPCG(7, 4))
	for _, count := range []int{9, 40, 100, 1000} {
		for _, bits := range [][]int{make([]int, count), ones(count), randomSymbols(random, count, 2)} {
			word := impl.ConvolutionalEncode(bits)
			last := len(word) - 1
			for _, pair := range [][2]int{{0, 1}, {0, last}, {last - 1, last}, {1, 4}, {last - 5, last - 1}, {count, count + 1}, {count - 3, count + 2}, {0, 5}} {
				expectDecoded(t, flipped(word, pair[0], pair[1]), bits, 2)
				expectDecoded(t, flipped(word, pair[0]), bits, 1)
			}
		}
	}
}

// Any two code words differ in five symbols, so each erasure costs half an error.
func TestErasedSymbolsAreRestored(t *testing.T) {
	for length := range 6 {
		for _, bits := range allBitStrings(length) {
			word := impl.ConvolutionalEncode(bits)
			for i := range word {
				for j := range i {
					gaps := with(with(word, i, 2), j, 2)
					expectDecoded(t, gaps, bits, 0)
					for k := range j {
						expectDecoded(t, with(gaps, k, 2), bits, 0)
						expectDecoded(t, flipped(gaps, k), bits, 1)
					}
				}
			}
		}
	}
	for _, bits := range sampleBits() {
		if word := impl.ConvolutionalEncode(bits); len(bits) <= 1000 {
			expectDecoded(t, impl.Depuncture(impl.Puncture(word), len(word)), bits, 0)
		}
	}
}

// More than two errors cannot always be corrected.
func TestCorrectableErrors(t *testing.T) {
	if got := impl.CorrectableErrors(); got != 2 {
		t.Errorf("CorrectableErrors() is %d", got)
	}
	expectDecoded(t, flipped(impl.ConvolutionalEncode([]int{1}), 0, 1, 2), []int{0}, 2)
}

func TestMinimumDistance(t *testing.T) {
	for _, c := range []struct{ count, want int }{
		{1, 5}, {2, 5}, {3, 5}, {40, 5}, {999, 5}, {1000, 5},
		{0, 0}, {-1, 0}, {-2, 0}, {-1000, 0}, {1001, 0}, {1002, 0}, {2004, 0}, {1 << 32, 0}, {1<<32 + 1, 0}, {-1<<32 + 1, 0},
		{math.MinInt, 0}, {math.MinInt + 1, 0}, {math.MaxInt - 1, 0}, {math.MaxInt, 0},
	} {
		if got := impl.MinimumDistance(c.count); got != c.want {
			t.Errorf("MinimumDistance(%d) is %d, not %d", c.count, got, c.want)
		}
	}
}

func TestMinimumDistanceAgainstCodeWords(t *testing.T) {
	for count := 1; count <= 8; count++ {
		least := math.MaxInt
		words := codeWords(count)
		for i, one := range words {
			for _, two := range words[:i] {
				least = min(least, mismatches(one, two))
			}
		}
		if got := impl.MinimumDistance(count); got != least {
			t.Errorf("MinimumDistance(%d) is %d, not %d", count, got, least)
		}
	}
}

func TestDecodingFunctionsKeepTheirArguments(t *testing.T) {
	for _, values := range [][]int{{}, {1}, {1, 0, 1}, {0, 0, 0, 0}, {1, 0, 1, 0, 1, 1}, {2, 2, 2, 2, 2, 2, 2, 2}, {1, 2, 0, 2, 1, 1, 0, 1}, {1, -1, 3, 7, 9, 1}} {
		list, other := intsWithSpare(values...), intsWithSpare(1, 0)
		impl.PathDistance(list, other)
		impl.PathDistance(other, list)
		impl.PathDistance(list, list)
		got, _ := impl.ViterbiDecode(list)
		spoilInts(append(got, 1))
		spoilInts(got)
		checkIntsSpare(t, "a function of decoding", list, values...)
		checkIntsSpare(t, "PathDistance", other, 1, 0)
	}
}

func TestResultsOfViterbiDecodeShareNoMemory(t *testing.T) {
	for _, c := range []struct{ symbols, want string }{{"0000", ""}, {"111011", "1"}, {"11101100", "10"}, {"222222222222", "0000"}, {"110101110011", "1100"}, {"3", ""}} {
		one, _ := impl.ViterbiDecode(bitsOfText(c.symbols))
		two, d := impl.ViterbiDecode(bitsOfText(c.symbols))
		spoilInts(append(one, 1))
		spoilInts(one)
		again, e := impl.ViterbiDecode(bitsOfText(c.symbols))
		if !slices.Equal(two, bitsOfText(c.want)) || !slices.Equal(again, two) || d != e {
			t.Errorf("two results of ViterbiDecode(%s) share memory: %v, %v", c.symbols, two, again)
		}
	}
}
