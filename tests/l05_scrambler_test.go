package tests

import (
	"bytes"
	"math"
	"slices"
	"strings"
	"testing"

	"loop.example/g00511/impl"
)

// outputOf127 are the output bits of the 127 states from 127 on, as published for the scrambler of wireless networks.
const outputOf127 = "00001110" + "11110010" + "11001001" + "00000010" + "00100110" + "00101110" + "10110110" + "00001100" +
	"11010100" + "11100111" + "10110100" + "00101010" + "11111010" + "01010001" + "10111000" + "1111111"

// checkResidue is the check of every frame of AppendCrc with its check.
const checkResidue = 3911

// notStates are integers that are no scrambler states; the lowest bits of some of them are those of a state.
var notStates = []int{
	-1, 0, 128, -2, -127, -128, -120, 129, 136, 191, 255, 256, 257, 264, 1 << 32, 1<<32 + 1, 1<<32 + 8, -1<<32 + 8,
	math.MinInt, math.MinInt + 1, math.MinInt + 8, math.MaxInt - 1, math.MaxInt,
}

// notCounts are counts of steps out of range.
var notCounts = []int{
	-1, -2, -127, -1000, 1001, 1002, 1016, 1270, 65536, 1 << 32, 1<<32 + 1, -1<<32 + 1, math.MinInt, math.MinInt + 1, math.MaxInt - 1, math.MaxInt,
}

// checkReference computes the check by a polynomial division of the bits, the coefficient of the greatest power first.
func checkReference(data []byte) int {
	dividend := append(byteBitsReference(data), make([]int, 16)...)
	// A register that starts at 65535 inverts the first 16 bits; the divisor has the powers 16, 12, 5 and 0.
	for i := range 16 {
		dividend[i] ^= 1
	}
	for i := range len(dividend) - 16 {
		if dividend[i] == 1 {
			for _, power := range []int{16, 12, 5, 0} {
				dividend[i+16-power] ^= 1
			}
		}
	}
	check := 0
	for i, bit := range dividend[len(dividend)-16:] {
		check += (1 - bit) << i
	}
	return check
}

// nextReference writes a state as a text of bits, bit 6 first, and moves the text.
func nextReference(state int) int {
	bits := binaryReference(state, 7)
	moved := append([]int{(bits[3] + bits[6]) % 2}, bits[:6]...)
	next := 0
	for i, bit := range moved {
		next += bit << i
	}
	return next
}

// scrambleReference adds the published output bits, from the place where they belong to the state.
func scrambleReference(state int, bits []int) []int {
	place := 0
	for s := 127; s != state; s = nextReference(s) {
		place++
	}
	scrambled := []int{}
	for i, bit := range bits {
		scrambled = append(scrambled, (bit+int(outputOf127[(place+i)%127]-'0'))%2)
	}
	return scrambled
}

// runReference looks for repeated texts in a text of zeros and ones.
func runReference(text string) int {
	longest := 0
	for strings.Contains(text, strings.Repeat("0", longest+1)) || strings.Contains(text, strings.Repeat("1", longest+1)) {
		longest++
	}
	return longest
}

// sampleTexts are byte strings of many lengths and values.
func sampleTexts() [][]byte {
	texts := [][]byte{
		nil, {}, []byte("123456789"), []byte("hi"), []byte("hello"), allBytes(), slices.Repeat(allBytes(), 4),
		{0, 0}, {255, 255}, {71, 15}, {15, 71}, {240, 184}, {184, 240}, {8, 132}, {132, 8},
	}
	for b := range 256 {
		texts = append(texts, []byte{byte(b)}, []byte{0, byte(b)}, []byte{byte(b), 0}, []byte{byte(b), byte(b), 255 - byte(b)})
	}
	for length := range 40 {
		texts = append(texts, bytes.Repeat([]byte{0}, length), bytes.Repeat([]byte{255}, length), allBytes()[100:100+length])
	}
	return texts
}

// inverted returns a copy of the frame in which the bits at the positions are inverted.
func inverted(frame []byte, positions ...int) []byte {
	changed := slices.Clone(frame)
	for _, p := range positions {
		changed[p/8] ^= 1 << (p % 8)
	}
	return changed
}

func expectBadFrame(t *testing.T, frame []byte) {
	t.Helper()
	if got, ok := impl.CheckCrc(frame); len(got) != 0 || ok {
		t.Errorf("CheckCrc(%v) is %v, %v", frame, got, ok)
	}
}

func TestConstantsOfScrambler(t *testing.T) {
	if impl.ScramblerStates != 127 || impl.CheckLength != 2 {
		t.Error(impl.ScramblerStates, impl.CheckLength)
	}
}

func TestCrc16(t *testing.T) {
	for _, c := range []struct {
		data string
		want int
	}{
		{"", 0}, {"123456789", 36974},
		{"\x00", 61560}, {"\xff", 65280}, {"A", 41973}, {"hi", 23061}, {"abc", 40485},
		{"\x00\x00", 3911}, {"\xff\xff", 65535}, {"\x00\x00\x00\x00\x00", 53111}, {string(allBytes()), 12348},
	} {
		if got := impl.Crc16([]byte(c.data)); got != c.want {
			t.Errorf("Crc16(%q) is %d, not %d", c.data, got, c.want)
		}
	}
	if impl.Crc16(nil) != 0 || impl.Crc16([]byte{}) != 0 {
		t.Error(impl.Crc16(nil), impl.Crc16([]byte{}))
	}
}

func TestCrc16AgainstReference(t *testing.T) {
	for _, data := range sampleTexts() {
		if got, want := impl.Crc16(data), checkReference(data); got != want {
			t.Errorf("Crc16(%v) is %d, not %d", data, got, want)
		}
	}
}

func TestAppendCrc(t *testing.T) {
	for _, c := range []struct {
		data string
		want []byte
	}{
		{"", []byte{0, 0}},
		// 36974 is 144*256+110: the low byte comes first
		{"123456789", append([]byte("123456789"), 110, 144)},
		{"\x00", []byte{0, 120, 240}}, {"\xff", []byte{255, 0, 255}}, {"\x00\x00", []byte{0, 0, 71, 15}}, {"hi", []byte{'h', 'i', 21, 90}},
	} {
		if got := impl.AppendCrc([]byte(c.data)); !bytes.Equal(got, c.want) {
			t.Errorf("AppendCrc(%q) is %v, not %v", c.data, got, c.want)
		}
	}
	for _, data := range [][]byte{nil, {}} {
		if got := impl.AppendCrc(data); !bytes.Equal(got, []byte{0, 0}) {
			t.Errorf("AppendCrc(%v) is %v", data, got)
		}
	}
}

// Promise 5: the bytes are found again, and the check of a whole frame is the same for every frame.
func TestFramesAreAccepted(t *testing.T) {
	for _, data := range sampleTexts() {
		frame := impl.AppendCrc(data)
		check := checkReference(data)
		if want := slices.Concat(data, []byte{byte(check % 256), byte(check / 256)}); !bytes.Equal(frame, want) {
			t.Errorf("AppendCrc(%v) is %v, not %v", data, frame, want)
		}
		if got, ok := impl.CheckCrc(frame); !bytes.Equal(got, data) || !ok {
			t.Errorf("CheckCrc(%v) is %v, %v", frame, got, ok)
		}
		if got := impl.Crc16(frame); got != checkResidue {
			t.Errorf("Crc16(%v) is %d", frame, got)
		}
	}
}

func TestShortFrames(t *testing.T) {
	expectBadFrame(t, nil)
	expectBadFrame(t, []byte{})
	for b := range 256 {
		expectBadFrame(t, []byte{byte(b)})
	}
	// Of two bytes only the check of no bytes is a frame.
	for low := range 256 {
		for high := range 256 {
			frame := []byte{byte(low), byte(high)}
			if low != 0 || high != 0 {
				expectBadFrame(t, frame)
			} else if got, ok := impl.CheckCrc(frame); len(got) != 0 || !ok {
				t.Errorf("CheckCrc(%v) is %v, %v", frame, got, ok)
			}
		}
	}
}

// Of all frames of one data byte, one per value is accepted.
func TestChecksOfOneByte(t *testing.T) {
	for _, b := range []byte{0, 1, 127, 128, 255} {
		want := checkReference([]byte{b})
		for check := range 65536 {
			frame := []byte{b, byte(check % 256), byte(check / 256)}
			if check != want {
				expectBadFrame(t, frame)
			} else if got, ok := impl.CheckCrc(frame); !bytes.Equal(got, []byte{b}) || !ok {
				t.Errorf("CheckCrc(%v) is %v, %v", frame, got, ok)
			}
		}
	}
}

// Promise 5: one or two inverted bits are detected, wherever they are, and so are three.
func TestInvertedBitsAreDetected(t *testing.T) {
	for _, data := range [][]byte{nil, {0}, {255}, {0, 0}, []byte("hi"), []byte("hello"), []byte("123456789")} {
		frame := impl.AppendCrc(data)
		for i := range 8 * len(frame) {
			expectBadFrame(t, inverted(frame, i))
			for j := range i {
				expectBadFrame(t, inverted(frame, i, j))
				for k := range min(j, 20) {
					expectBadFrame(t, inverted(frame, i, j, k))
				}
			}
		}
	}
	long := impl.AppendCrc(allBytes())
	for i := range 8 * len(long) {
		expectBadFrame(t, inverted(long, i))
		for _, distance := range []int{1, 2, 8, 15, 16, 17, 127, 255, 1024} {
			expectBadFrame(t, inverted(long, i, (i+distance)%(8*len(long))))
		}
	}
}

// Promise 5: changes within 16 consecutive bits are detected.
func TestBurstsAreDetected(t *testing.T) {
	for _, data := range [][]byte{nil, []byte("A"), []byte("hi")} {
		frame := impl.AppendCrc(data)
		for start := range 8*len(frame) - 15 {
			for _, burst := range allBitStrings(14) {
				positions := []int{start}
				for i, bit := range burst {
					if bit == 1 {
						positions = append(positions, start+1+i)
					}
				}
				expectBadFrame(t, inverted(frame, positions...))
				expectBadFrame(t, inverted(frame, append(positions, start+15)...))
			}
		}
	}
}

func TestOtherChangesAreDetected(t *testing.T) {
	for _, data := range [][]byte{[]byte("hi"), []byte("hello"), []byte("123456789"), allBytes()} {
		frame := impl.AppendCrc(data)
		for length := range len(frame) {
			expectBadFrame(t, frame[:length])
		}
		expectBadFrame(t, frame[1:])
		expectBadFrame(t, append(slices.Clone(frame), 0))
		expectBadFrame(t, append([]byte{0}, frame...))
		expectBadFrame(t, impl.AppendCrc(frame)[:len(frame)+1])
		// the check with its high byte first
		last := len(frame) - 1
		expectBadFrame(t, slices.Concat(data, []byte{frame[last], frame[last-1]}))
		// the register itself, without the last exclusive or
		expectBadFrame(t, slices.Concat(data, []byte{255 - frame[last-1], 255 - frame[last]}))
		expectBadFrame(t, slices.Concat(frame[last-1:], data))
	}
}

func TestNextScramblerState(t *testing.T) {
	for _, c := range []struct{ state, want int }{
		{8, 17}, {64, 1}, {1, 2}, {2, 4}, {4, 8}, {16, 32}, {32, 64}, {72, 16}, {127, 126}, {126, 124}, {5, 10}, {9, 19}, {65, 3}, {73, 18}, {120, 112}, {119, 111},
	} {
		if got := impl.NextScramblerState(c.state); got != c.want {
			t.Errorf("NextScramblerState(%d) is %d, not %d", c.state, got, c.want)
		}
	}
	for state := 1; state <= 127; state++ {
		if got, want := impl.NextScramblerState(state), nextReference(state); got != want {
			t.Errorf("NextScramblerState(%d) is %d, not %d", state, got, want)
		}
	}
	for _, state := range notStates {
		if got := impl.NextScramblerState(state); got != 0 {
			t.Errorf("NextScramblerState(%d) is %d", state, got)
		}
	}
}

// The 127 states form one cycle.
func TestCycleOfStates(t *testing.T) {
	for start := 1; start <= 127; start++ {
		seen := map[int]bool{}
		state := start
		for range 127 {
			if state < 1 || state > 127 || seen[state] {
				t.Fatalf("from %d on, the state %d is reached too early", start, state)
			}
			seen[state] = true
			state = impl.NextScramblerState(state)
		}
		if state != start {
			t.Errorf("after 127 steps from %d on, the state is %d", start, state)
		}
	}
}

func TestScramble(t *testing.T) {
	for _, c := range []struct {
		state      int
		bits, want string
	}{
		{8, "0000", "1001"}, {8, "1001", "0000"}, {8, "1111", "0110"}, {8, "0", "1"}, {8, "1", "0"},
		{64, "0", "1"}, {72, "0", "0"}, {1, "0000000", "0001001"}, {127, "00000000", "00001110"}, {127, "11111111", "11110001"},
		{1, "", ""}, {127, "", ""},
		{127, strings.Repeat("0", 127), outputOf127}, {127, strings.Repeat("0", 254), outputOf127 + outputOf127},
		{127, outputOf127 + "1", strings.Repeat("0", 127) + "1"},
	} {
		if got := impl.Scramble(c.state, bitsOfText(c.bits)); !slices.Equal(got, bitsOfText(c.want)) {
			t.Errorf("Scramble(%d, %s) is %v, not %s", c.state, c.bits, got, c.want)
		}
	}
	for _, state := range append([]int{1, 8, 127}, notStates...) {
		if one, two := impl.Scramble(state, nil), impl.Scramble(state, []int{}); len(one) != 0 || len(two) != 0 {
			t.Errorf("with state %d, Scramble of no bits is %v, %v", state, one, two)
		}
	}
}

// Promise 5: scrambling is inverted by itself, from every state and for every bit string.
func TestScrambleTwice(t *testing.T) {
	list := [][]int{make([]int, 300), ones(300), impl.BytesToBits(allBytes()[:50]), bitsOfText(strings.Repeat("10", 200))}
	for length := range 7 {
		list = append(list, allBitStrings(length)...)
	}
	for state := 1; state <= 127; state++ {
		for _, bits := range list {
			scrambled := impl.Scramble(state, bits)
			if want := scrambleReference(state, bits); !slices.Equal(scrambled, want) {
				t.Errorf("Scramble(%d, %v) is %v, not %v", state, bits, scrambled, want)
			}
			if got := impl.Scramble(state, scrambled); !slices.Equal(got, bits) {
				t.Errorf("Scramble(%d, %v) is not inverted by itself: %v", state, bits, got)
			}
		}
	}
}

// Another state scrambles otherwise, as soon as there are seven bits.
func TestScrambleDependsOnState(t *testing.T) {
	seen := map[int]int{}
	for state := 1; state <= 127; state++ {
		scrambled := impl.BitsToInt(impl.Scramble(state, bitsOfText("1011001")))
		if other, ok := seen[scrambled]; ok {
			t.Errorf("the states %d and %d scramble alike", other, state)
		}
		seen[scrambled] = state
	}
}

// A long run does not stay one: the output bits have no run longer than seven.
func TestScrambleAvoidsRuns(t *testing.T) {
	for state := 1; state <= 127; state++ {
		for _, bits := range [][]int{make([]int, 500), ones(500)} {
			if got := impl.LongestRun(impl.Scramble(state, bits)); got != 7 {
				t.Errorf("from state %d on, %d is scrambled to a run of %d", state, bits[0], got)
			}
		}
	}
}

func TestScrambleRejects(t *testing.T) {
	for _, bits := range [][]int{nil, {0}, {1}, {1, 0, 1, 1, 0, 0, 0}, ones(200), {2, -1, 1}, {math.MinInt, 0, math.MaxInt}} {
		for _, state := range notStates {
			if got := impl.Scramble(state, bits); !slices.Equal(got, bits) {
				t.Errorf("Scramble(%d, %v) is %v", state, bits, got)
			}
		}
	}
	for _, state := range []int{1, 8, 64, 127} {
		for _, v := range notBits {
			for i := range 8 {
				for _, bits := range [][]int{with(ones(8), i, v), with(make([]int, 8), i, v)} {
					if got := impl.Scramble(state, bits); !slices.Equal(got, bits) {
						t.Errorf("Scramble(%d, %v) is %v", state, bits, got)
					}
				}
			}
		}
	}
}

func TestScramblerStateAfter(t *testing.T) {
	for _, c := range []struct{ state, count, want int }{
		{8, 0, 8}, {8, 1, 17}, {8, 2, 34}, {8, 3, 68}, {8, 4, 9}, {5, 127, 5}, {5, 254, 5}, {5, 128, 10}, {5, 126, 66}, {1, 0, 1}, {127, 0, 127}, {127, 1, 126},
		// 1000 is 7*127+111
		{8, 889, 8}, {8, 890, 17}, {8, -1, 0}, {8, 1001, 0}, {0, 0, 0}, {128, 0, 0}, {-1, 0, 0},
	} {
		if got := impl.ScramblerStateAfter(c.state, c.count); got != c.want {
			t.Errorf("ScramblerStateAfter(%d, %d) is %d, not %d", c.state, c.count, got, c.want)
		}
	}
	for start := 1; start <= 127; start++ {
		state := start
		for count := range 1001 {
			if got := impl.ScramblerStateAfter(start, count); got != state {
				t.Errorf("ScramblerStateAfter(%d, %d) is %d, not %d", start, count, got, state)
			}
			state = nextReference(state)
		}
	}
}

func TestScramblerStateAfterRejects(t *testing.T) {
	for _, state := range notStates {
		for _, count := range append([]int{0, 1, 127, 1000}, notCounts...) {
			if got := impl.ScramblerStateAfter(state, count); got != 0 {
				t.Errorf("ScramblerStateAfter(%d, %d) is %d", state, count, got)
			}
		}
	}
	for _, state := range []int{1, 5, 8, 127} {
		for _, count := range notCounts {
			if got := impl.ScramblerStateAfter(state, count); got != 0 {
				t.Errorf("ScramblerStateAfter(%d, %d) is %d", state, count, got)
			}
		}
	}
}

func TestLongestRun(t *testing.T) {
	for _, c := range []struct {
		bits []int
		want int
	}{
		{nil, 0}, {[]int{}, 0}, {[]int{0}, 1}, {[]int{1}, 1}, {[]int{0, 1}, 1}, {[]int{1, 0, 1, 0}, 1},
		// one run, a run at the beginning, in the middle and at the end
		{ones(5), 5}, {make([]int, 5), 5}, {ones(1000), 1000},
		{[]int{1, 1, 1, 0, 1}, 3}, {[]int{0, 0, 0, 1, 1}, 3}, {[]int{1, 0, 0, 0, 1}, 3}, {[]int{1, 0, 1, 1, 1}, 3}, {[]int{1, 1, 0, 0, 0, 0}, 4},
		// equal elements that stand apart form no run, and of two longest runs each is one
		{[]int{1, 1, 0, 1, 1}, 2}, {[]int{1, 1, 0, 0, 1, 0, 0}, 2}, {[]int{0, 1, 0, 1, 1, 0}, 2},
		// elements that are no bits are compared as integers
		{[]int{2}, 1}, {[]int{2, 2, 2}, 3}, {[]int{-1, -1, 0, 0}, 2}, {[]int{3, 1, 1}, 2}, {[]int{2, 0, 2, 0}, 1}, {[]int{-1, 1, -1}, 1},
		{[]int{1, 3, 5, 7}, 1}, {[]int{0, 2, 4, 4}, 2}, {[]int{7, 7, 7, 1, 0}, 3}, {[]int{0, 9, 9, 9}, 3},
		{[]int{math.MinInt, math.MinInt, math.MaxInt}, 2}, {[]int{math.MaxInt, math.MinInt, 0, 1 << 32}, 1}, {[]int{0, 1 << 32, 1 << 32, 1}, 2},
	} {
		if got := impl.LongestRun(c.bits); got != c.want {
			t.Errorf("LongestRun(%v) is %d, not %d", c.bits, got, c.want)
		}
	}
}

func TestLongestRunAgainstReference(t *testing.T) {
	for length := range 12 {
		for _, bits := range allBitStrings(length) {
			text := ""
			for _, bit := range bits {
				text += string(rune('0' + bit))
			}
			want := runReference(text)
			if got := impl.LongestRun(bits); got != want {
				t.Errorf("LongestRun(%v) is %d, not %d", bits, got, want)
			}
			other := []int{}
			for _, bit := range bits {
				other = append(other, notBits[bit])
			}
			if got := impl.LongestRun(other); got != want {
				t.Errorf("LongestRun(%v) is %d, not %d", other, got, want)
			}
		}
	}
}

func TestScramblerFunctionsKeepTheirArguments(t *testing.T) {
	for _, data := range [][]byte{{}, {0}, {0, 0}, []byte("hi"), impl.AppendCrc([]byte("hi")), allBytes()} {
		b := withSpare(data...)
		impl.Crc16(b)
		spoil(impl.AppendCrc(b))
		checkSpare(t, "a function of frames", b, data...)
		got, _ := impl.CheckCrc(b)
		spoil(got)
		spoil(append(got, 1))
		checkSpare(t, "CheckCrc", b, data...)
	}
	for _, values := range [][]int{{}, {1}, {1, 0, 1, 1, 0, 0, 0, 1}, {1, -1, 3}} {
		bits := intsWithSpare(values...)
		impl.LongestRun(bits)
		for _, state := range []int{-1, 0, 1, 8, 127, 128} {
			got := impl.Scramble(state, bits)
			spoilInts(append(got, 1))
			spoilInts(got)
			checkIntsSpare(t, "Scramble", bits, values...)
		}
	}
}

func TestResultsOfScramblerFunctionsShareNoMemory(t *testing.T) {
	for _, c := range []struct {
		state      int
		bits, want []int
	}{
		{8, []int{0, 0, 0, 0}, []int{1, 0, 0, 1}}, {0, []int{1, 0, 1}, []int{1, 0, 1}}, {128, []int{1, 0, 1}, []int{1, 0, 1}}, {8, []int{1, 2, 1}, []int{1, 2, 1}},
	} {
		one, two := impl.Scramble(c.state, c.bits), impl.Scramble(c.state, c.bits)
		spoilInts(one)
		if !slices.Equal(two, c.want) || !slices.Equal(impl.Scramble(c.state, c.bits), c.want) {
			t.Errorf("two results of Scramble(%d, %v) share memory: %v", c.state, c.bits, two)
		}
	}
	one, two := impl.AppendCrc(nil), impl.AppendCrc(nil)
	spoil(one)
	if !bytes.Equal(two, []byte{0, 0}) || !bytes.Equal(impl.AppendCrc(nil), []byte{0, 0}) {
		t.Errorf("two results of AppendCrc share memory: %v", two)
	}
	frame := impl.AppendCrc([]byte("hi"))
	one, _ = impl.CheckCrc(frame)
	two, _ = impl.CheckCrc(frame)
	spoil(one)
	if again, ok := impl.CheckCrc(frame); string(two) != "hi" || string(again) != "hi" || !ok {
		t.Errorf("two results of CheckCrc share memory: %v", two)
	}
}
