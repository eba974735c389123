package tests

import (
	"math"
	"math/bits"
	"math/rand/v2"
	"slices"
	"testing"

	"loop.example/g00511/impl"
)

// headerRates, headerLengths and headerSeeds are values in range at and beside their limits.
var (
	headerRates   = []int{impl.RateRobust, impl.RateFast}
	headerLengths = []int{0, 1, 2, 3, 7, 8, 60, 63, 64, 119, 120}
	headerSeeds   = []int{1, 2, 8, 63, 64, 93, 126, 127}
)

// notRates and notLengths are out of range; the lowest bits of some of them are those of a value in range.
var (
	notRates   = []int{-1, 0, 3, -2, -3, 4, 5, 6, 257, 1 << 32, 1<<32 + 1, -1<<32 + 2, math.MinInt, math.MinInt + 1, math.MinInt + 2, math.MaxInt - 1, math.MaxInt}
	notLengths = []int{-1, 121, -2, -120, -121, 122, 127, 128, 255, 256, 257, 1 << 32, 1<<32 + 5, -1<<32 + 5, math.MinInt, math.MinInt + 5, math.MaxInt - 1, math.MaxInt}
)

// sampleHeaders are valid headers with each combination of the sample values.
func sampleHeaders() []impl.PhyHeader {
	list := []impl.PhyHeader{}
	for _, rate := range headerRates {
		for _, length := range headerLengths {
			for _, seed := range headerSeeds {
				list = append(list, impl.PhyHeader{Rate: rate, Length: length, Seed: seed})
			}
		}
	}
	return list
}

// invalidHeaders are headers of which one, two or all three fields are out of range.
func invalidHeaders() []impl.PhyHeader {
	list := []impl.PhyHeader{}
	for _, rate := range slices.Concat(headerRates, notRates) {
		for _, length := range slices.Concat([]int{0, 3, 120}, notLengths) {
			for _, seed := range slices.Concat([]int{1, 8, 127}, notStates) {
				if slices.Contains(notRates, rate) || slices.Contains(notLengths, length) || slices.Contains(notStates, seed) {
					list = append(list, impl.PhyHeader{Rate: rate, Length: length, Seed: seed})
				}
			}
		}
	}
	return list
}

// headerOfNumber returns the header whose 18 bits are those of n, or false if it is damaged or invalid.
func headerOfNumber(n int) (impl.PhyHeader, bool) {
	h := impl.PhyHeader{Rate: n % 4, Length: n / 4 % 256, Seed: n / 1024 % 128}
	if isOdd(bits.OnesCount(uint(n))) || h.Rate == 0 || h.Rate == 3 || h.Length > 120 || h.Seed == 0 {
		return impl.PhyHeader{}, false
	}
	return h, true
}

// numberOfHeader returns the number whose bits are those of one copy of a header whose fields fit into them.
func numberOfHeader(h impl.PhyHeader) int {
	n := h.Rate + 4*h.Length + 1024*h.Seed
	return n + 131072*(bits.OnesCount(uint(n))%2)
}

// headerReference returns three copies of the bits of a header, valid or not.
func headerReference(h impl.PhyHeader) []int {
	return slices.Repeat(binaryReference(numberOfHeader(h), 18), 3)
}

// headerOfSymbols lets the ones vote, a copy at a time.
func headerOfSymbols(symbols []int) (impl.PhyHeader, bool) {
	if len(symbols) != 54 {
		return impl.PhyHeader{}, false
	}
	votes := make([]int, 18)
	for part := range slices.Chunk(symbols, 18) {
		for i, symbol := range part {
			if symbol == 1 {
				votes[i]++
			}
		}
	}
	n := 0
	for i, count := range votes {
		n += []int{0, 0, 1, 1}[count] << i
	}
	return headerOfNumber(n)
}

// payloadCount returns the number of payload symbols of a valid header.
func payloadCount(h impl.PhyHeader) int {
	count := 16*h.Length + 36
	if h.Rate == impl.RateFast {
		count -= count / 4
	}
	return count
}

// frameReference returns the symbols of a frame, made with the references of the chapters before.
func frameReference(h impl.PhyHeader, payload []byte) []int {
	check := checkReference(payload)
	checked := append(slices.Clone(payload), byte(check%256), byte(check/256))
	symbols := encodeReference(scrambleReference(h.Seed, byteBitsReference(checked)))
	if h.Rate == impl.RateFast {
		symbols = withoutFourths(symbols)
	}
	return append(headerReference(h), byColumns(symbols, 8)...)
}

// receiveReference inverts the steps of frameReference with the references of the chapters before.
func receiveReference(symbols []int) (impl.PhyHeader, []byte, int) {
	h, ok := headerOfSymbols(symbols[:min(len(symbols), 54)])
	if !ok || len(symbols) != 54+payloadCount(h) {
		return impl.PhyHeader{}, nil, impl.ReceivedBadHeader
	}
	if slices.ContainsFunc(symbols[54:], func(v int) bool { return v < 0 || v > 2 }) {
		return h, nil, impl.ReceivedBadChecksum
	}
	coded := make([]int, payloadCount(h))
	for position, index := range byColumns(upTo(len(coded)), 8) {
		coded[index] = symbols[54+position]
	}
	if h.Rate == impl.RateFast {
		restored := []int{}
		for three := range slices.Chunk(coded, 3) {
			restored = append(restored, append(slices.Clone(three), 2)...)
		}
		coded = restored[:16*h.Length+36]
	}
	decoded, _ := decodeReference(coded)
	data := []byte{}
	for eight := range slices.Chunk(scrambleReference(h.Seed, decoded), 8) {
		b := 0
		for i, bit := range eight {
			b += bit << i
		}
		data = append(data, byte(b))
	}
	payload, check := data[:h.Length], checkReference(data[:h.Length])
	if data[h.Length] != byte(check%256) || data[h.Length+1] != byte(check/256) {
		return h, nil, impl.ReceivedBadChecksum
	}
	return h, payload, impl.ReceivedOK
}

// randomPayload returns length bytes.
func randomPayload(random *rand.Rand, length int) []byte {
	payload := make([]byte, length)
	for i := range payload {
		payload[i] = byte(random.IntN(256))
	}
	return payload
}

func expectHeader(t *testing.T, symbols []int, want impl.PhyHeader, ok bool) {
	t.Helper()
	if got, valid := impl.DecodeHeader(symbols); got != want || valid != ok {
		t.Errorf("DecodeHeader(%v) is %v, %v, not %v, %v", symbols, got, valid, want, ok)
	}
}

func expectNoHeader(t *testing.T, symbols []int) {
	t.Helper()
	expectHeader(t, symbols, impl.PhyHeader{}, false)
}

func expectReceived(t *testing.T, symbols []int, h impl.PhyHeader, payload []byte, code int) {
	t.Helper()
	got, data, result := impl.ReceiveFrame(symbols)
	if got != h || !slices.Equal(data, payload) || result != code {
		t.Errorf("ReceiveFrame of %d symbols is %v, %v, %d, not %v, %v, %d", len(symbols), got, data, result, h, payload, code)
	}
}

func expectBadHeader(t *testing.T, symbols []int) {
	t.Helper()
	expectReceived(t, symbols, impl.PhyHeader{}, nil, impl.ReceivedBadHeader)
}

func expectBadChecksum(t *testing.T, symbols []int, h impl.PhyHeader) {
	t.Helper()
	expectReceived(t, symbols, h, nil, impl.ReceivedBadChecksum)
}

func expectLikeReference(t *testing.T, symbols []int) {
	t.Helper()
	h, payload, code := receiveReference(symbols)
	expectReceived(t, symbols, h, payload, code)
}

func TestConstantsOfPhysicalFrames(t *testing.T) {
	if impl.RateRobust != 1 || impl.RateFast != 2 || impl.MaxFrameBytes != 120 || impl.HeaderSymbols != 54 || impl.Columns != 8 {
		t.Error(impl.RateRobust, impl.RateFast, impl.MaxFrameBytes, impl.HeaderSymbols, impl.Columns)
	}
	if impl.ReceivedOK != 0 || impl.ReceivedBadHeader != 1 || impl.ReceivedBadChecksum != 2 {
		t.Error(impl.ReceivedOK, impl.ReceivedBadHeader, impl.ReceivedBadChecksum)
	}
}

func TestIsValidHeader(t *testing.T) {
	for rate := 1; rate <= 2; rate++ {
		for length := 0; length <= 120; length++ {
			for seed := 1; seed <= 127; seed++ {
				if h := (impl.PhyHeader{Rate: rate, Length: length, Seed: seed}); !impl.IsValidHeader(h) {
					t.Errorf("%v is not valid", h)
				}
			}
		}
	}
	for _, h := range append(invalidHeaders(), impl.PhyHeader{}) {
		if impl.IsValidHeader(h) {
			t.Errorf("%v is valid", h)
		}
	}
}

// Fixed values, computed apart from the program.
func TestEncodeHeader(t *testing.T) {
	for _, c := range []struct {
		rate, length, seed int
		want               string
	}{
		{1, 0, 1, "100000000010000000"}, {2, 0, 1, "010000000010000000"}, {1, 3, 93, "101100000010111010"}, {2, 120, 127, "010001111011111110"},
		{1, 120, 127, "100001111011111110"}, {2, 1, 64, "011000000000000011"}, {1, 85, 42, "101010101001010100"}, {2, 42, 85, "010101010010101010"},
	} {
		h := impl.PhyHeader{Rate: c.rate, Length: c.length, Seed: c.seed}
		want := bitsOfText(c.want + c.want + c.want)
		if got := impl.EncodeHeader(h); !slices.Equal(got, want) {
			t.Errorf("EncodeHeader(%v) is %v, not %v", h, got, want)
		}
		expectHeader(t, want, h, true)
	}
}

// Every header is decoded from its encoding.
func TestHeadersAreRestored(t *testing.T) {
	for rate := 1; rate <= 2; rate++ {
		for length := 0; length <= 120; length++ {
			for seed := 1; seed <= 127; seed++ {
				h := impl.PhyHeader{Rate: rate, Length: length, Seed: seed}
				symbols := impl.EncodeHeader(h)
				if !slices.Equal(symbols, headerReference(h)) {
					t.Errorf("EncodeHeader(%v) is %v", h, symbols)
				}
				expectHeader(t, symbols, h, true)
			}
		}
	}
}

func TestEncodeHeaderRejects(t *testing.T) {
	for _, h := range append(invalidHeaders(), impl.PhyHeader{}) {
		if got := impl.EncodeHeader(h); len(got) != 0 {
			t.Errorf("EncodeHeader(%v) is %v", h, got)
		}
	}
}

// All 18 bits in every combination: with an odd number of ones, with an even one and an invalid header, and valid ones.
func TestDecodeHeaderOfAllBits(t *testing.T) {
	for n := range 1 << 18 {
		h, ok := headerOfNumber(n)
		symbols := make([]int, 54)
		for i := range symbols {
			symbols[i] = n >> (i % 18) & 1
		}
		expectHeader(t, symbols, h, ok)
	}
}

// Bits whose number of ones is even do not make these values valid.
func TestDecodeHeaderRejectsInvalidValues(t *testing.T) {
	rejected := 0
	for rate := range 4 {
		for _, length := range []int{0, 1, 120, 121, 127, 128, 255} {
			for _, seed := range []int{0, 1, 127} {
				h := impl.PhyHeader{Rate: rate, Length: length, Seed: seed}
				valid := (rate == 1 || rate == 2) && length <= 120 && seed != 0
				if valid {
					expectHeader(t, headerReference(h), h, true)
					continue
				}
				rejected++
				expectNoHeader(t, headerReference(h))
			}
		}
	}
	if rejected == 0 {
		t.Error("no header was rejected")
	}
}

// An inverted symbol changes no header, wherever it stands.
func TestDecodeHeaderWithOneInvertedSymbol(t *testing.T) {
	for rate := 1; rate <= 2; rate++ {
		for _, length := range headerLengths {
			for seed := 1; seed <= 127; seed++ {
				h := impl.PhyHeader{Rate: rate, Length: length, Seed: seed}
				symbols := impl.EncodeHeader(h)
				for i := range symbols {
					symbols[i] = 1 - symbols[i]
					expectHeader(t, symbols, h, true)
					symbols[i] = 1 - symbols[i]
				}
			}
		}
	}
}

// Two inverted copies of one bit are noticed; one copy of each of two bits is corrected.
func TestDecodeHeaderWithTwoInvertedSymbols(t *testing.T) {
	for _, h := range sampleHeaders() {
		symbols := impl.EncodeHeader(h)
		for i := range symbols {
			for j := range i {
				changed := flipped(symbols, i, j)
				if i%18 == j%18 {
					expectNoHeader(t, changed)
				} else {
					expectHeader(t, changed, h, true)
				}
			}
		}
	}
}

// Inverted copies of several bits: one copy of every bit is corrected, more of them yield another header or none.
func TestDecodeHeaderWithInvertedCopies(t *testing.T) {
	for _, h := range sampleHeaders() {
		symbols := impl.EncodeHeader(h)
		for part := range 3 {
			changed := flipped(symbols, upTo(18 * (part + 1))[18*part:]...)
			expectHeader(t, changed, h, true)
		}
		expectNoHeader(t, flipped(symbols, 17, 35, 53))
		for i := range 18 {
			expectNoHeader(t, flipped(symbols, i, i+18, i+36))
			for j := range i {
				other, ok := headerOfNumber(numberOfHeader(h) ^ 1<<i ^ 1<<j)
				expectHeader(t, flipped(symbols, i, i+18, j+18, j+36), other, ok)
				expectHeader(t, flipped(symbols, i, i+36, j, j+18, j+36), other, ok)
				// Two copies of one bit and a single one of another.
				expectNoHeader(t, flipped(symbols, i, i+36, j+18))
			}
		}
	}
}

func TestDecodeHeaderOfRandomSymbols(t *testing.T) {
	random := rand.New(rand.NewPCG(10, 1))
	for range 200 {
		for _, h := range sampleHeaders() {
			symbols := disturbed(random, headerReference(h), 2+random.IntN(10), 3)
			want, ok := headerOfSymbols(symbols)
			expectHeader(t, symbols, want, ok)
		}
	}
}

// Elements that are no bits count like zeros: they hide a one only in two or three copies.
func TestDecodeHeaderOfOtherElements(t *testing.T) {
	for _, h := range []impl.PhyHeader{{Rate: 1, Length: 3, Seed: 93}, {Rate: 2, Length: 120, Seed: 127}, {Rate: 2, Length: 0, Seed: 1}} {
		symbols := impl.EncodeHeader(h)
		for _, v := range notBits {
			for i := range 18 {
				for _, copies := range [][]int{{i}, {i + 18}, {i + 36}, {i, i + 18}, {i + 18, i + 36}, {i, i + 36}, {i, i + 18, i + 36}} {
					changed := slices.Clone(symbols)
					for _, p := range copies {
						changed[p] = v
					}
					if symbols[i] == 0 || len(copies) == 1 {
						expectHeader(t, changed, h, true)
					} else {
						expectNoHeader(t, changed)
					}
				}
			}
		}
	}
	for _, v := range notBits {
		expectNoHeader(t, slices.Repeat([]int{v}, 54))
	}
}

func TestDecodeHeaderRejectsLengths(t *testing.T) {
	expectNoHeader(t, nil)
	for _, h := range []impl.PhyHeader{{Rate: 1, Length: 3, Seed: 93}, {Rate: 2, Length: 120, Seed: 127}} {
		symbols := slices.Repeat(headerReference(h), 3)
		for length := range symbols {
			if length == 54 {
				expectHeader(t, symbols[:length], h, true)
			} else {
				expectNoHeader(t, symbols[:length])
			}
		}
		for _, v := range []int{0, 1, 2, -1} {
			expectNoHeader(t, append(headerReference(h), v))
			expectNoHeader(t, append([]int{v}, headerReference(h)...))
		}
	}
}

func TestPayloadSymbols(t *testing.T) {
	for _, c := range []struct{ rate, length, want int }{
		{1, 0, 36}, {1, 1, 52}, {1, 2, 68}, {1, 3, 84}, {1, 119, 1940}, {1, 120, 1956},
		{2, 0, 27}, {2, 1, 39}, {2, 2, 51}, {2, 3, 63}, {2, 119, 1455}, {2, 120, 1467},
	} {
		for seed := 1; seed <= 127; seed++ {
			h := impl.PhyHeader{Rate: c.rate, Length: c.length, Seed: seed}
			if got := impl.PayloadSymbols(h); got != c.want {
				t.Errorf("PayloadSymbols(%v) is %d, not %d", h, got, c.want)
			}
			if got := impl.FrameSymbols(h); got != 54+c.want {
				t.Errorf("FrameSymbols(%v) is %d, not %d", h, got, 54+c.want)
			}
		}
	}
	for rate := 1; rate <= 2; rate++ {
		for length := 0; length <= 120; length++ {
			h := impl.PhyHeader{Rate: rate, Length: length, Seed: 77}
			if p, f := impl.PayloadSymbols(h), impl.FrameSymbols(h); p != payloadCount(h) || f != 54+payloadCount(h) {
				t.Errorf("the numbers of symbols of %v are %d and %d", h, p, f)
			}
		}
	}
	for _, h := range append(invalidHeaders(), impl.PhyHeader{}) {
		if p, f := impl.PayloadSymbols(h), impl.FrameSymbols(h); p != 0 || f != 0 {
			t.Errorf("the numbers of symbols of %v are %d and %d", h, p, f)
		}
	}
}

// Fixed values, computed apart from the program.
func TestTransmitFrame(t *testing.T) {
	for _, c := range []struct {
		rate, seed int
		payload    []byte
		want       string
	}{
		{1, 1, nil, "010100010101101011010100010110111110"},
		{2, 1, nil, "010001110111000000110111001"},
		{1, 93, []byte("abc"), "101000000111011101010001110001111101001001111011010000000010100001010100111000101111"},
		{2, 93, []byte("abc"), "110001011001101000000010111010010111010101101010010000110110000"},
		{1, 127, []byte{0}, "0100101010010100000100111110011000000111000110011111"},
		{2, 127, []byte{0}, "000110101000001000000001100011101001110"},
		{1, 8, []byte{255}, "0111110010011111000111111011000010110011010111101000"},
		{2, 8, []byte{255, 0, 170}, "010001100000010111111011010100001101010000001101100110011011000"},
	} {
		h := impl.PhyHeader{Rate: c.rate, Length: len(c.payload), Seed: c.seed}
		want := append(headerReference(h), bitsOfText(c.want)...)
		if got := impl.TransmitFrame(h, c.payload); !slices.Equal(got, want) {
			t.Errorf("TransmitFrame(%v, %v) is %v, not %v", h, c.payload, got, want)
		}
		expectReceived(t, want, h, c.payload, impl.ReceivedOK)
	}
}

// Promise 10: an undisturbed frame is received, whatever its length, its rate and its payload.
func TestFramesAreReceived(t *testing.T) {
	random := rand.New(rand.NewPCG(10, 2))
	for rate := 1; rate <= 2; rate++ {
		for length := 0; length <= 120; length++ {
			for _, payload := range [][]byte{make([]byte, length), slices.Repeat([]byte{255}, length), allBytes()[:length], randomPayload(random, length)} {
				h := impl.PhyHeader{Rate: rate, Length: length, Seed: 1 + random.IntN(127)}
				symbols := impl.TransmitFrame(h, payload)
				if len(symbols) != impl.FrameSymbols(h) || !slices.Equal(symbols, frameReference(h, payload)) {
					t.Errorf("TransmitFrame(%v, %v) has %d symbols, or others", h, payload, len(symbols))
				}
				expectReceived(t, symbols, h, payload, impl.ReceivedOK)
			}
		}
	}
}

func TestFramesOfAllSeedsAreReceived(t *testing.T) {
	random := rand.New(rand.NewPCG(10, 3))
	for rate := 1; rate <= 2; rate++ {
		for _, length := range []int{0, 1, 2, 5, 17, 120} {
			for seed := 1; seed <= 127; seed++ {
				h, payload := impl.PhyHeader{Rate: rate, Length: length, Seed: seed}, randomPayload(random, length)
				symbols := impl.TransmitFrame(h, payload)
				if !slices.Equal(symbols, frameReference(h, payload)) {
					t.Errorf("TransmitFrame(%v, %v) is %v", h, payload, symbols)
				}
				expectReceived(t, symbols, h, payload, impl.ReceivedOK)
			}
		}
	}
}

func TestTransmitFrameRejectsLengths(t *testing.T) {
	for rate := 1; rate <= 2; rate++ {
		for length := 0; length <= 120; length++ {
			h := impl.PhyHeader{Rate: rate, Length: length, Seed: 93}
			for _, other := range []int{0, length - 1, length + 1, length + 2, 120, 121, 256} {
				if other < 0 || other == length {
					continue
				}
				if got := impl.TransmitFrame(h, allBytes()[:other]); len(got) != 0 {
					t.Errorf("TransmitFrame(%v) of %d bytes is %v", h, other, got)
				}
			}
			if got := impl.TransmitFrame(h, nil); (len(got) == 0) != (length > 0) {
				t.Errorf("TransmitFrame(%v, nil) has %d symbols", h, len(got))
			}
		}
		// A nil payload and an empty one are the same.
		h := impl.PhyHeader{Rate: rate, Seed: 93}
		if one, two := impl.TransmitFrame(h, nil), impl.TransmitFrame(h, []byte{}); !slices.Equal(one, two) || len(one) != impl.FrameSymbols(h) {
			t.Errorf("TransmitFrame(%v) of no bytes is %v and %v", h, one, two)
		}
	}
}

// Invalid headers, also with payloads that have Length bytes.
func TestTransmitFrameRejectsHeaders(t *testing.T) {
	for _, h := range append(invalidHeaders(), impl.PhyHeader{}) {
		for _, payload := range [][]byte{nil, []byte("abc"), allBytes()[:min(max(h.Length, 0), 256)]} {
			if got := impl.TransmitFrame(h, payload); len(got) != 0 {
				t.Errorf("TransmitFrame(%v) of %d bytes is %v", h, len(payload), got)
			}
		}
	}
}

// Promise 10: a short robust frame is received with any two payload symbols inverted.
func TestRobustFrameWithTwoInvertedSymbols(t *testing.T) {
	for _, payload := range []string{"", "a", "ab", "abc"} {
		h := impl.PhyHeader{Rate: impl.RateRobust, Length: len(payload), Seed: 93}
		symbols := impl.TransmitFrame(h, []byte(payload))
		for i := 54; i < len(symbols); i++ {
			expectReceived(t, flipped(symbols, i), h, []byte(payload), impl.ReceivedOK)
			for j := 54; j < i; j++ {
				expectReceived(t, flipped(symbols, i, j), h, []byte(payload), impl.ReceivedOK)
			}
		}
	}
}

// Promise 10 for every length: neighbors, symbols at both ends and any two, and one header symbol besides.
func TestLongRobustFrameWithTwoInvertedSymbols(t *testing.T) {
	random := rand.New(rand.NewPCG(10, 4))
	for length := 0; length <= 120; length++ {
		h, payload := impl.PhyHeader{Rate: impl.RateRobust, Length: length, Seed: 1 + random.IntN(127)}, randomPayload(random, length)
		symbols := impl.TransmitFrame(h, payload)
		pairs := [][]int{{54, 55}, {54, len(symbols) - 1}, {len(symbols) - 2, len(symbols) - 1}}
		for range 6 {
			two := random.Perm(len(symbols) - 54)[:2]
			pairs = append(pairs, []int{54 + two[0], 54 + two[1]})
		}
		for _, pair := range pairs {
			changed := flipped(symbols, pair...)
			expectReceived(t, changed, h, payload, impl.ReceivedOK)
			expectReceived(t, flipped(changed, random.IntN(54)), h, payload, impl.ReceivedOK)
		}
	}
}

// One header symbol, or one copy of the whole header, harms no frame.
func TestReceiveFrameWithInvertedHeaderSymbols(t *testing.T) {
	for rate := 1; rate <= 2; rate++ {
		for _, payload := range []string{"", "abc"} {
			h := impl.PhyHeader{Rate: rate, Length: len(payload), Seed: 93}
			symbols := impl.TransmitFrame(h, []byte(payload))
			for i := range 54 {
				expectReceived(t, flipped(symbols, i), h, []byte(payload), impl.ReceivedOK)
				expectReceived(t, with(symbols, i, 2), h, []byte(payload), impl.ReceivedOK)
				expectReceived(t, with(symbols, i, math.MinInt), h, []byte(payload), impl.ReceivedOK)
				expectBadHeader(t, flipped(symbols, i, (i+18)%54))
			}
			for part := range 3 {
				expectReceived(t, flipped(symbols, upTo(18 * (part + 1))[18*part:]...), h, []byte(payload), impl.ReceivedOK)
			}
			expectBadHeader(t, flipped(symbols, upTo(54)...))
		}
	}
}

// A payload behind the header of another frame: another seed fails the check, and another number of symbols the header.
func TestReceiveFrameWithOtherHeader(t *testing.T) {
	for rate := 1; rate <= 2; rate++ {
		for _, payload := range []string{"", "abc"} {
			h := impl.PhyHeader{Rate: rate, Length: len(payload), Seed: 93}
			symbols := impl.TransmitFrame(h, []byte(payload))[54:]
			for seed := 1; seed <= 127; seed++ {
				other := impl.PhyHeader{Rate: rate, Length: len(payload), Seed: seed}
				if seed != 93 {
					expectBadChecksum(t, append(headerReference(other), symbols...), other)
				}
			}
			for length := 0; length <= 120; length++ {
				if length != len(payload) {
					expectBadHeader(t, append(headerReference(impl.PhyHeader{Rate: rate, Length: length, Seed: 93}), symbols...))
				}
				expectBadHeader(t, append(headerReference(impl.PhyHeader{Rate: 3 - rate, Length: length, Seed: 93}), symbols...))
			}
			// These are headers with an even number of ones, but invalid ones.
			for _, bad := range []impl.PhyHeader{{Rate: 0, Length: 3, Seed: 93}, {Rate: 3, Length: 3, Seed: 93}, {Rate: rate, Length: 121, Seed: 93}, {Rate: rate, Length: 3}} {
				expectBadHeader(t, append(headerReference(bad), symbols...))
			}
		}
	}
}

func TestReceiveFrameRejectsLengths(t *testing.T) {
	expectBadHeader(t, nil)
	expectBadHeader(t, []int{})
	for _, h := range sampleHeaders() {
		symbols := impl.TransmitFrame(h, allBytes()[:h.Length])
		for _, length := range []int{0, 1, 18, 52, 53, 54, 55, len(symbols) - 2, len(symbols) - 1} {
			expectBadHeader(t, symbols[:length])
		}
		for _, more := range [][]int{{0}, {1}, {2}, {7}, {0, 0}, {1, 0, 1, 1}, symbols} {
			expectBadHeader(t, append(slices.Clone(symbols), more...))
		}
		expectBadHeader(t, symbols[54:])
		expectBadHeader(t, symbols[1:])
	}
	// Every length that is too short or too long.
	h := impl.PhyHeader{Rate: impl.RateRobust, Length: 3, Seed: 93}
	symbols := slices.Concat(impl.TransmitFrame(h, []byte("abc")), make([]int, 100))
	for length := range symbols {
		if length == impl.FrameSymbols(h) {
			expectReceived(t, symbols[:length], h, []byte("abc"), impl.ReceivedOK)
		} else {
			expectBadHeader(t, symbols[:length])
		}
	}
}

// Up to four erased symbols are restored, since any two code words differ in five.
func TestReceiveFrameOfErasedSymbols(t *testing.T) {
	random := rand.New(rand.NewPCG(10, 5))
	for _, length := range []int{0, 1, 3, 20, 120} {
		h, payload := impl.PhyHeader{Rate: impl.RateRobust, Length: length, Seed: 93}, randomPayload(random, length)
		symbols := impl.TransmitFrame(h, payload)
		for count := range 5 {
			for range 20 {
				changed := slices.Clone(symbols)
				for _, p := range random.Perm(len(symbols) - 54)[:count] {
					changed[54+p] = impl.Erasure
				}
				expectReceived(t, changed, h, payload, impl.ReceivedOK)
			}
		}
	}
	for _, h := range []impl.PhyHeader{{Rate: 1, Length: 3, Seed: 93}, {Rate: 2, Length: 3, Seed: 93}, {Rate: 1, Seed: 1}, {Rate: 2, Seed: 1}, {Rate: 2, Length: 8, Seed: 127}} {
		symbols := impl.TransmitFrame(h, allBytes()[:h.Length])
		for i := 54; i < len(symbols); i++ {
			expectReceived(t, with(symbols, i, impl.Erasure), h, allBytes()[:h.Length], impl.ReceivedOK)
			for j := i + 1; j <= len(symbols); j += 7 {
				expectLikeReference(t, erased(symbols, i, j))
			}
		}
		// No payload symbol is left: the nearest bits are zeros, and their check is not right.
		expectBadChecksum(t, erased(symbols, 54, len(symbols)), h)
		expectBadHeader(t, erased(symbols, 0, len(symbols)))
		expectBadHeader(t, erased(symbols, 0, 54))
	}
}

// Elements that are no symbols are not decoded, wherever they stand in the payload.
func TestReceiveFrameOfOtherElements(t *testing.T) {
	for rate := 1; rate <= 2; rate++ {
		for _, payload := range []string{"", "abc"} {
			h := impl.PhyHeader{Rate: rate, Length: len(payload), Seed: 93}
			symbols := impl.TransmitFrame(h, []byte(payload))
			for _, v := range notSymbols {
				for i := 54; i < len(symbols); i++ {
					expectBadChecksum(t, with(symbols, i, v), h)
				}
				expectBadChecksum(t, append(headerReference(h), slices.Repeat([]int{v}, payloadCount(h))...), h)
			}
		}
	}
}

// So many inverted symbols that the nearest bits are others.
func TestReceiveFrameOfManyInvertedSymbols(t *testing.T) {
	for _, h := range sampleHeaders() {
		symbols := impl.TransmitFrame(h, allBytes()[:h.Length])
		count := len(symbols) - 54
		expectBadChecksum(t, flipped(symbols, upTo(len(symbols))[54:]...), h)
		expectBadChecksum(t, flipped(symbols, upTo(54 + count/2)[54:]...), h)
		expectBadChecksum(t, flipped(symbols, upTo(len(symbols))[54+count/2:]...), h)
	}
}

// The code words of one inverted bit: five symbols, after which other bits fit exactly and only the check fails.
func TestReceiveFrameOfOtherBits(t *testing.T) {
	for rate := 1; rate <= 2; rate++ {
		h := impl.PhyHeader{Rate: rate, Length: 3, Seed: 93}
		symbols := impl.TransmitFrame(h, []byte("abc"))
		for i := range 40 {
			difference := encodeReference(with(make([]int, 40), i, 1))
			if rate == impl.RateFast {
				difference = withoutFourths(difference)
			}
			changed := append(headerReference(h), impl.XorBits(symbols[54:], byColumns(difference, 8))...)
			expectBadChecksum(t, changed, h)
		}
	}
}

// Disturbed frames of all kinds, compared with a receiver that is made of the references.
func TestReceiveFrameAgainstReference(t *testing.T) {
	random := rand.New(rand.NewPCG(10, 6))
	codes := map[int]int{}
	for range 3000 {
		h := impl.PhyHeader{Rate: 1 + random.IntN(2), Length: random.IntN(8), Seed: 1 + random.IntN(127)}
		if random.IntN(30) == 0 {
			h.Length = random.IntN(121)
		}
		symbols := frameReference(h, randomPayload(random, h.Length))
		changed := disturbed(random, symbols, 5+random.IntN(60), 3)
		if random.IntN(20) == 0 {
			changed = with(changed, random.IntN(len(changed)), notSymbols[random.IntN(len(notSymbols))])
		}
		expectLikeReference(t, changed)
		expectLikeReference(t, append(symbols[:54:54], changed[54:]...))
		expectLikeReference(t, append(changed[:54:54], symbols[54:]...))
		_, _, code := receiveReference(changed)
		codes[code]++
	}
	if len(codes) != 3 {
		t.Errorf("the frames show only the codes %v", codes)
	}
}

// All short payloads of noise behind a header.
func TestReceiveFrameOfNoise(t *testing.T) {
	random := rand.New(rand.NewPCG(10, 7))
	for range 300 {
		for _, rate := range headerRates {
			h := impl.PhyHeader{Rate: rate, Length: random.IntN(4), Seed: 1 + random.IntN(127)}
			expectLikeReference(t, append(headerReference(h), randomSymbols(random, payloadCount(h), 2+random.IntN(2))...))
		}
		expectLikeReference(t, randomSymbols(random, random.IntN(200), 3))
	}
}

// Errors of the channel of chapter 9, on whole frames.
func TestFramesThroughChannel(t *testing.T) {
	for seed := range 100 {
		for _, rate := range headerRates {
			h := impl.PhyHeader{Rate: rate, Length: 5, Seed: 1 + seed}
			symbols := impl.TransmitFrame(h, []byte("hello"))
			expectLikeReference(t, impl.FlipBits(symbols, impl.ErrorPattern(seed, len(symbols), 20)))
			expectLikeReference(t, impl.FlipBits(symbols, impl.BurstPattern(54+seed, seed%12)))
		}
	}
}

func TestEqualHeaders(t *testing.T) {
	values := []int{0, 1, 2, -1, 93, 120, 1 << 32, math.MinInt, math.MaxInt}
	list := []impl.PhyHeader{}
	for _, rate := range values {
		for _, length := range values {
			for _, seed := range values {
				list = append(list, impl.PhyHeader{Rate: rate, Length: length, Seed: seed})
			}
		}
	}
	for i, a := range list {
		for j, b := range list {
			if got := impl.EqualHeaders(a, b); got != (i == j) {
				t.Errorf("EqualHeaders(%v, %v) is %v", a, b, got)
			}
		}
	}
}

func TestFrameFunctionsKeepTheirArguments(t *testing.T) {
	random := rand.New(rand.NewPCG(10, 8))
	for rate := 1; rate <= 2; rate++ {
		for _, length := range []int{0, 1, 3, 120} {
			h, payload := impl.PhyHeader{Rate: rate, Length: length, Seed: 93}, randomPayload(random, length)
			b := withSpare(payload...)
			sent := impl.TransmitFrame(h, b)
			spoilInts(append(sent, 1))
			spoilInts(sent)
			checkSpare(t, "TransmitFrame", b, payload...)
			symbols := frameReference(h, payload)
			for _, values := range [][]int{
				symbols, flipped(symbols, 0, 60), erased(symbols, 54, 60), flipped(symbols, upTo(len(symbols))[54:]...),
				with(symbols, 70, 9), symbols[:len(symbols)-1], symbols[:54], symbols[:53], {},
			} {
				list := intsWithSpare(values...)
				_, got, _ := impl.ReceiveFrame(list)
				spoil(append(got, 1))
				spoil(got)
				impl.DecodeHeader(list)
				checkIntsSpare(t, "a function of frames", list, values...)
			}
			header := intsWithSpare(symbols[:54]...)
			expectHeader(t, header, h, true)
			checkIntsSpare(t, "DecodeHeader", header, symbols[:54]...)
		}
	}
}

func TestResultsOfFrameFunctionsShareNoMemory(t *testing.T) {
	h := impl.PhyHeader{Rate: impl.RateRobust, Length: 3, Seed: 93}
	symbols := frameReference(h, []byte("abc"))
	for _, c := range []struct {
		name string
		call func() []int
		want []int
	}{
		{"EncodeHeader", func() []int { return impl.EncodeHeader(h) }, symbols[:54]},
		{"EncodeHeader of no header", func() []int { return impl.EncodeHeader(impl.PhyHeader{}) }, nil},
		{"TransmitFrame", func() []int { return impl.TransmitFrame(h, []byte("abc")) }, symbols},
		{"TransmitFrame of another length", func() []int { return impl.TransmitFrame(h, []byte("ab")) }, nil},
	} {
		one, two := c.call(), c.call()
		spoilInts(append(one, 1))
		spoilInts(one)
		if !slices.Equal(two, c.want) || !slices.Equal(c.call(), c.want) {
			t.Errorf("two results of %s share memory: %v", c.name, two)
		}
	}
	for _, list := range [][]int{symbols, with(symbols, 60, 9), symbols[:60]} {
		wantHeader, want, code := receiveReference(list)
		_, one, _ := impl.ReceiveFrame(list)
		_, two, _ := impl.ReceiveFrame(list)
		spoil(append(one, 1))
		spoil(one)
		if !slices.Equal(two, want) {
			t.Errorf("two results of ReceiveFrame share memory: %v", two)
		}
		expectReceived(t, list, wantHeader, want, code)
	}
}
