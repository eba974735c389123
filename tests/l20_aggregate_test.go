package tests

import (
	"bytes"
	"math"
	"math/rand/v2"
	"slices"
	"testing"

	"loop.example/g00511/impl"
)

// notFrameLengths are out of the range of the lengths of frames; some have a low byte in it.
var notFrameLengths = []int{-1, 201, 255, 256, -2, -4, -56, -200, -256, 202, 203, 204, 257, 261, 456, 512, 65535, 65536, 65541, 1 << 32, 1<<32 + 5, -1<<32 + 5, math.MinInt, math.MinInt + 5, math.MaxInt - 1, math.MaxInt}

// fixedDelimiters were computed apart from the program.
var fixedDelimiters = []struct {
	length int
	bytes  []byte
}{
	{0, []byte{0, 0, 71, 78}},
	{1, []byte{1, 0, 159, 78}},
	{2, []byte{2, 0, 247, 78}},
	{3, []byte{3, 0, 47, 78}},
	{4, []byte{4, 0, 39, 78}},
	{5, []byte{5, 0, 255, 78}},
	{8, []byte{8, 0, 135, 78}},
	{78, []byte{78, 0, 49, 78}},
	{100, []byte{100, 0, 114, 78}},
	{127, []byte{127, 0, 75, 78}},
	{128, []byte{128, 0, 139, 78}},
	{199, []byte{199, 0, 229, 78}},
	{200, []byte{200, 0, 45, 78}},
}

// delimiterReference also makes delimiters for lengths beyond the limit.
func delimiterReference(length int) []byte {
	low, high := byte(length%256), byte(length/256)
	return []byte{low, high, byte(checkReference([]byte{low, high}) % 256), 78}
}

// lengthsOfDelimiters has the length of every delimiter.
var lengthsOfDelimiters = func() map[string]int {
	lengths := map[string]int{}
	for length := range 201 {
		lengths[string(delimiterReference(length))] = length
	}
	return lengths
}()

func parsedReference(b []byte, offset int) (int, bool) {
	if offset < 0 || offset > len(b) {
		return 0, false
	}
	rest := b[offset:]
	length, ok := lengthsOfDelimiters[string(rest[:min(4, len(rest))])]
	return length, ok
}

func subframeReference(frame []byte) []byte {
	subframe := append(delimiterReference(len(frame)), frame...)
	for len(subframe)%4 > 0 {
		subframe = append(subframe, 0)
	}
	return subframe
}

// subframesReference puts any number of subframes behind one another, also too many.
func subframesReference(frames ...[]byte) []byte {
	whole := []byte{}
	for _, frame := range frames {
		whole = append(whole, subframeReference(frame)...)
	}
	return whole
}

func aggregateReference(frames [][]byte) []byte {
	for _, frame := range frames {
		if len(frame) > 200 {
			return []byte{}
		}
	}
	if len(frames) > 8 {
		return []byte{}
	}
	return subframesReference(frames...)
}

// splitReference looks at each fourth byte and leaves out those that belong to the frame taken last.
func splitReference(b []byte) [][]byte {
	found := [][]byte{}
	end := 0
	for start := 0; start < len(b); start += 4 {
		length, ok := parsedReference(b, start)
		if start >= end && ok && len(found) < 8 && start+4+length <= len(b) {
			end = start + 4 + length
			found = append(found, b[start+4:end])
		}
	}
	return found
}

func sizeReference(length int) int {
	if length < 0 || length > 200 {
		return 0
	}
	return len(subframeReference(make([]byte, length)))
}

func fitsReference(lengths []int, next int, limit int) bool {
	sum := sizeReference(next)
	for _, length := range lengths {
		sum += sizeReference(length)
	}
	return sizeReference(next) > 0 && len(lengths) <= 7 && limit >= sum
}

// plainFrame has no byte of 78, so that nothing in it is taken for a delimiter; the numbers make frames differ.
func plainFrame(number int, length int) []byte {
	frame := make([]byte, length)
	for i := range frame {
		frame[i] = byte(100 + (number*13+i*7)%100)
	}
	return frame
}

// plainFrames are frames of these lengths.
func plainFrames(lengths ...int) [][]byte {
	frames := [][]byte{}
	for number, length := range lengths {
		frames = append(frames, plainFrame(number, length))
	}
	return frames
}

// eightLengths have every number of zero bytes. No change of a single byte makes one of their delimiters that of
// another length, as two lengths with the same check byte differ in seven bits.
var eightLengths = []int{5, 0, 8, 3, 47, 1, 18, 4}

// startsOf are the offsets of the subframes of these lengths.
func startsOf(lengths []int) []int {
	starts := []int{}
	next := 0
	for _, length := range lengths {
		starts = append(starts, next)
		next += sizeReference(length)
	}
	return starts
}

// withByte is a copy of b with another byte at the place.
func withByte(b []byte, place int, value byte) []byte {
	changed := bytes.Clone(b)
	changed[place] = value
	return changed
}

func sameFrames(a [][]byte, b [][]byte) bool {
	return slices.EqualFunc(a, b, bytes.Equal)
}

func expectDelimiter(t *testing.T, length int, want []byte) {
	t.Helper()
	if got := impl.DelimiterBytes(length); !bytes.Equal(got, want) || got == nil {
		t.Errorf("DelimiterBytes(%d) is %#v, not %v", length, got, want)
	}
}

func expectParsed(t *testing.T, b []byte, offset int, want int, ok bool) {
	t.Helper()
	if got, gotOK := impl.ParseDelimiter(b, offset); got != want || gotOK != ok {
		t.Errorf("ParseDelimiter(%v, %d) is %d, %v, not %d, %v", b, offset, got, gotOK, want, ok)
	}
}

func expectParsedLikeReference(t *testing.T, b []byte, offset int) {
	t.Helper()
	want, ok := parsedReference(b, offset)
	expectParsed(t, b, offset, want, ok)
}

func expectAggregate(t *testing.T, frames [][]byte, want []byte) {
	t.Helper()
	if got := impl.AggregateFrames(frames); !bytes.Equal(got, want) || got == nil {
		t.Errorf("AggregateFrames(%v) is %#v, not %v", frames, got, want)
	}
}

func expectSplit(t *testing.T, b []byte, want [][]byte) {
	t.Helper()
	if got := impl.SplitAggregate(b); !sameFrames(got, want) || got == nil {
		t.Errorf("SplitAggregate(%v) is %v, not %v", b, got, want)
	}
}

func expectSplitLikeReference(t *testing.T, b []byte) {
	t.Helper()
	expectSplit(t, b, splitReference(b))
}

func expectSize(t *testing.T, length int, want int) {
	t.Helper()
	if got := impl.SubframeSize(length); got != want {
		t.Errorf("SubframeSize(%d) is %d, not %d", length, got, want)
	}
}

func expectAggregateSize(t *testing.T, lengths []int, want int) {
	t.Helper()
	if got := impl.AggregateSize(lengths); got != want {
		t.Errorf("AggregateSize(%v) is %d, not %d", lengths, got, want)
	}
}

func expectFits(t *testing.T, lengths []int, next int, limit int, want bool) {
	t.Helper()
	if got := impl.FitsAggregate(lengths, next, limit); got != want {
		t.Errorf("FitsAggregate(%v, %d, %d) is %v", lengths, next, limit, got)
	}
}

func TestAggregateConstants(t *testing.T) {
	if impl.MaxSubframes != 8 || impl.Delimiter != 78 || impl.MaxSubframeBytes != 200 {
		t.Errorf("MaxSubframes is %d, Delimiter %d, MaxSubframeBytes %d", impl.MaxSubframes, impl.Delimiter, impl.MaxSubframeBytes)
	}
}

func TestDelimiterBytes(t *testing.T) {
	for _, c := range fixedDelimiters {
		expectDelimiter(t, c.length, c.bytes)
	}
	for length := range 201 {
		expectDelimiter(t, length, delimiterReference(length))
	}
	for _, length := range notFrameLengths {
		expectDelimiter(t, length, []byte{})
	}
}

// A length is read back wherever its delimiter stands, and whatever is around it.
func TestParseDelimiter(t *testing.T) {
	for _, c := range fixedDelimiters {
		expectParsed(t, c.bytes, 0, c.length, true)
	}
	for length := range 201 {
		delimiter := impl.DelimiterBytes(length)
		for ahead := range 9 {
			for behind := range 3 {
				b := slices.Concat(bodyOf(ahead), delimiter, bodyOf(behind))
				expectParsed(t, b, ahead, length, true)
				expectParsed(t, b, ahead-1, 0, false)
				expectParsed(t, b, ahead+1, 0, false)
			}
		}
	}
}

func TestParseDelimiterAtOffsets(t *testing.T) {
	whole := subframesReference(plainFrames(eightLengths...)...)
	for offset := -10; offset <= len(whole)+10; offset++ {
		want, ok := 0, false
		if i := slices.Index(startsOf(eightLengths), offset); i >= 0 {
			want, ok = eightLengths[i], true
		}
		expectParsed(t, whole, offset, want, ok)
	}
	far := []int{math.MinInt, math.MinInt + 1, math.MinInt + 4, -1 << 32, 1 << 32, 1<<32 + 12, math.MaxInt - 4, math.MaxInt - 3, math.MaxInt - 2, math.MaxInt - 1, math.MaxInt}
	for _, b := range [][]byte{nil, {}, {78}, whole, whole[:4], whole[:11]} {
		for _, offset := range far {
			expectParsed(t, b, offset, 0, false)
		}
	}
	for _, frame := range plainFrames(eightLengths...) {
		// The last four bytes are a delimiter, and nothing behind them is.
		b := append(subframeReference(frame), 0, 0, 71, 78)
		expectParsed(t, b, len(b)-4, 0, true)
		for more := 1; more < 6; more++ {
			expectParsed(t, b, len(b)-4+more, 0, false)
		}
	}
}

func TestParseDelimiterOfFewBytes(t *testing.T) {
	for _, c := range fixedDelimiters {
		six := slices.Concat(c.bytes, c.bytes[:2])
		for count := range 7 {
			for offset := -2; offset < 8; offset++ {
				ok := offset == 0 && count >= 4
				want := 0
				if ok {
					want = c.length
				}
				// The bytes behind the end of the slice, in its capacity, do not count.
				expectParsed(t, six[:count], offset, want, ok)
				expectParsed(t, bytes.Clone(six[:count]), offset, want, ok)
			}
		}
	}
	for offset := -5; offset <= 5; offset++ {
		expectParsed(t, nil, offset, 0, false)
		expectParsed(t, []byte{}, offset, 0, false)
	}
}

func TestParseDelimiterWithAnInvertedBit(t *testing.T) {
	for length := range 201 {
		for place := range 4 {
			for bit := range 8 {
				delimiter := delimiterReference(length)
				delimiter[place] ^= 1 << bit
				expectParsed(t, delimiter, 0, 0, false)
				expectParsed(t, slices.Concat(bodyOf(3), delimiter, bodyOf(9)), 3, 0, false)
			}
		}
	}
}

// The delimiters that would be right but for a length beyond the limit.
func TestParseDelimiterOfTooLongFrames(t *testing.T) {
	for length := 201; length < 65536; length++ {
		expectParsed(t, delimiterReference(length), 0, 0, false)
	}
}

// Every length of one byte and some longer ones with every check byte, and every last byte.
func TestParseDelimiterOfAllBytes(t *testing.T) {
	for low := range 256 {
		for value := range 256 {
			for _, high := range []byte{0, 1, 128, 255} {
				expectParsedLikeReference(t, []byte{byte(low), high, byte(value), 78}, 0)
			}
			expectParsedLikeReference(t, withByte(delimiterReference(low), 3, byte(value)), 0)
			expectParsedLikeReference(t, withByte(delimiterReference(low), 1, byte(value)), 0)
		}
	}
}

func TestAggregateFrames(t *testing.T) {
	hello := []byte{5, 0, 255, 78, 'h', 'e', 'l', 'l', 'o', 0, 0, 0}
	none := []byte{0, 0, 71, 78}
	four := []byte{4, 0, 39, 78, 'a', 'b', 'c', 'd'}
	one := []byte{1, 0, 159, 78, 'x', 0, 0, 0}
	for _, c := range []struct {
		frames [][]byte
		want   []byte
	}{
		{nil, []byte{}},
		{[][]byte{}, []byte{}},
		{[][]byte{nil}, none},
		{[][]byte{{}}, none},
		{[][]byte{[]byte("hello")}, hello},
		{[][]byte{[]byte("abcd")}, four},
		{[][]byte{{0}}, []byte{1, 0, 159, 78, 0, 0, 0, 0}},
		{[][]byte{[]byte("hello"), {}, []byte("abcd")}, slices.Concat(hello, none, four)},
		{[][]byte{nil, []byte("x"), nil, {}, []byte("hello"), {}}, slices.Concat(none, one, none, none, hello, none)},
		{[][]byte{[]byte("x"), []byte("x")}, slices.Concat(one, one)},
		{[][]byte{{5, 0, 255, 78}}, []byte{4, 0, 39, 78, 5, 0, 255, 78}},
		{make([][]byte, 8), bytes.Repeat(none, 8)},
		{make([][]byte, 9), []byte{}},
	} {
		expectAggregate(t, c.frames, c.want)
	}
}

func TestAggregateFramesOfAllLengths(t *testing.T) {
	for length := range 201 {
		for _, frame := range [][]byte{plainFrame(1, length), make([]byte, length), bytes.Repeat([]byte{78}, length)} {
			expectAggregate(t, [][]byte{frame}, subframeReference(frame))
			expectAggregate(t, [][]byte{frame, []byte("x"), frame}, subframesReference(frame, []byte("x"), frame))
		}
	}
	for _, lengths := range shortLists([]int{0, 1, 2, 3, 4, 200, 201}, 4) {
		frames := plainFrames(lengths...)
		expectAggregate(t, frames, aggregateReference(frames))
	}
}

// Frames of 0 to 10, with each number of them short, as long as permitted, and one of them too long.
func TestAggregateFramesBeyondLimits(t *testing.T) {
	for count := range 11 {
		for _, length := range []int{0, 5, 199, 200} {
			frames := plainFrames(slices.Repeat([]int{length}, count)...)
			expectAggregate(t, frames, aggregateReference(frames))
			for i := range frames {
				for _, other := range []int{0, 200, 201, 202, 256, 261, 65536} {
					changed := slices.Clone(frames)
					changed[i] = plainFrame(9, other)
					expectAggregate(t, changed, aggregateReference(changed))
				}
			}
		}
	}
	for _, length := range []int{201, 202, 255, 256, 257, 456, 1000, 65536, 65541} {
		expectAggregate(t, plainFrames(length), []byte{})
		expectAggregate(t, plainFrames(3, length, 3), []byte{})
	}
	expectAggregate(t, make([][]byte, 100), []byte{})
	expectAggregate(t, make([][]byte, 264), []byte{})
}

func TestSplitAggregate(t *testing.T) {
	expectSplit(t, nil, [][]byte{})
	expectSplit(t, []byte{}, [][]byte{})
	expectSplit(t, []byte{5, 0, 255, 78, 'h', 'e', 'l', 'l', 'o', 0, 0, 0, 0, 0, 71, 78, 4, 0, 39, 78, 'a', 'b', 'c', 'd'}, [][]byte{[]byte("hello"), {}, []byte("abcd")})
	expectSplit(t, []byte{5, 0, 254, 78, 'h', 'e', 'l', 'l', 'o', 0, 0, 0, 0, 0, 71, 78, 4, 0, 39, 78, 'a', 'b', 'c', 'd'}, [][]byte{{}, []byte("abcd")})
	for length := range 201 {
		frame := bodyOf(length)
		expectSplit(t, impl.AggregateFrames([][]byte{frame}), [][]byte{frame})
		expectSplit(t, impl.AggregateFrames([][]byte{frame, {}, frame}), [][]byte{frame, {}, frame})
	}
	for _, lengths := range shortLists([]int{0, 1, 2, 3, 4, 200}, 4) {
		frames := plainFrames(lengths...)
		expectSplit(t, impl.AggregateFrames(frames), frames)
	}
	for _, length := range []int{0, 1, 4, 199, 200} {
		frames := plainFrames(slices.Repeat([]int{length}, 8)...)
		expectSplit(t, impl.AggregateFrames(frames), frames)
	}
}

// The frames of an undamaged aggregate may contain delimiters and whole aggregates.
func TestSplitAggregateOfDelimiters(t *testing.T) {
	inner := subframesReference([]byte("one"), nil, []byte("three"))
	frames := [][]byte{inner, inner[:5], slices.Concat(inner, inner), {0, 0, 71, 78}, inner[4:], bytes.Repeat([]byte{0, 0, 71, 78}, 50)}
	expectSplit(t, impl.AggregateFrames(frames), frames)
}

// Each byte in turn has every value.
func TestSplitAggregateWithAChangedByte(t *testing.T) {
	for _, lengths := range [][]int{{5, 0, 9}, {0, 0, 0, 0}, {4, 13, 1}, {60, 2}, {2, 120, 7}} {
		whole := subframesReference(plainFrames(lengths...)...)
		for place := range whole {
			for _, value := range allBytes() {
				expectSplitLikeReference(t, withByte(whole, place, value))
			}
		}
	}
}

func TestSplitAggregateWithADamagedDelimiter(t *testing.T) {
	frames := plainFrames(eightLengths...)
	whole := impl.AggregateFrames(frames)
	for i, start := range startsOf(eightLengths) {
		others := slices.Delete(slices.Clone(frames), i, i+1)
		for place := start; place < start+4; place++ {
			for _, value := range allBytes() {
				if value == whole[place] {
					expectSplit(t, whole, frames)
					continue
				}
				expectSplit(t, withByte(whole, place, value), others)
			}
		}
	}
}

// Every choice of the eight delimiters is damaged, at each of their bytes.
func TestSplitAggregateWithDamagedDelimiters(t *testing.T) {
	frames := plainFrames(eightLengths...)
	whole := impl.AggregateFrames(frames)
	for choice := range 256 {
		for place := range 4 {
			damaged, left := bytes.Clone(whole), [][]byte{}
			for i, start := range startsOf(eightLengths) {
				if choice>>i&1 == 1 {
					damaged[start+place] ^= 64
				} else {
					left = append(left, frames[i])
				}
			}
			expectSplit(t, damaged, left)
		}
	}
}

// Only the delimiter tells where a frame is: changed bytes of a frame change only this frame.
func TestSplitAggregateWithDamagedFrames(t *testing.T) {
	frames := plainFrames(eightLengths...)
	whole := impl.AggregateFrames(frames)
	for i, start := range startsOf(eightLengths) {
		for place := range frames[i] {
			for _, value := range []byte{0, 1, 78, 255} {
				want := slices.Clone(frames)
				want[i] = withByte(frames[i], place, value)
				expectSplit(t, withByte(whole, start+4+place, value), want)
			}
		}
	}
}

func TestSplitAggregateCutOff(t *testing.T) {
	for _, lengths := range [][]int{eightLengths, {0}, {1}, {2}, {3}, {4}, {5}, {5, 5}, {0, 0}, {200, 1}, {1, 200}, {}} {
		frames := plainFrames(lengths...)
		whole := subframesReference(frames...)
		starts := startsOf(lengths)
		for count := range len(whole) + 1 {
			// A frame is found if all its own bytes are there.
			want := [][]byte{}
			for i, frame := range frames {
				if starts[i]+4+len(frame) <= count {
					want = append(want, frame)
				}
			}
			expectSplit(t, whole[:count], want)
			expectSplit(t, bytes.Clone(whole[:count]), want)
		}
	}
}

func TestSplitAggregateWithoutZeroBytes(t *testing.T) {
	for length := range 200 {
		frames := plainFrames(7, length)
		whole := subframesReference(frames...)
		for zeros := range (4-length%4)%4 + 1 {
			expectSplit(t, whole[:len(whole)-zeros], frames)
		}
		if length > 0 {
			expectSplit(t, whole[:12+4+length-1], frames[:1])
		}
	}
}

func TestSplitAggregateWithOtherZeroBytes(t *testing.T) {
	frames := plainFrames(eightLengths...)
	starts := startsOf(eightLengths)
	for _, value := range allBytes() {
		whole := subframesReference(frames...)
		for i, start := range starts {
			for place := start + 4 + eightLengths[i]; place < start+sizeReference(eightLengths[i]); place++ {
				if whole[place] != 0 {
					t.Fatalf("the byte %d of %v is no zero byte", place, whole)
				}
				whole[place] = value
			}
		}
		expectSplit(t, whole, frames)
	}
}

func TestSplitAggregateBehindOtherBytes(t *testing.T) {
	frames := plainFrames(eightLengths...)
	whole := subframesReference(frames...)
	for ahead := range 300 {
		want := frames
		if ahead%4 != 0 {
			// A subframe begins only at a multiple of 4.
			want = [][]byte{}
		}
		expectSplit(t, append(plainFrame(5, ahead), whole...), want)
		expectSplit(t, append(make([]byte, ahead), whole...), want)
	}
}

// A frame that reaches beyond the end is not taken, but one inside of it is.
func TestSplitAggregateOfIncompleteFrames(t *testing.T) {
	for length := 1; length <= 200; length++ {
		delimiter := delimiterReference(length)
		expectSplit(t, delimiter, [][]byte{})
		expectSplit(t, append(delimiter, plainFrame(3, length-1)...), [][]byte{})
		expectSplit(t, append(delimiter, plainFrame(3, length)...), [][]byte{plainFrame(3, length)})
		inside := subframeReference([]byte("in"))
		for before := 0; before < length; before += 4 {
			b := slices.Concat(delimiter, plainFrame(3, before), inside)
			if length > before+len(inside) {
				expectSplit(t, b, [][]byte{[]byte("in")})
			}
			expectSplitLikeReference(t, b)
		}
	}
	expectSplit(t, []byte{200, 0, 45, 78, 0, 0, 71, 78, 200, 0, 45, 78, 1, 0, 159, 78, 'x'}, [][]byte{{}, {'x'}})
}

// The bytes of a frame count as an aggregate if its delimiter is damaged, and only then.
func TestSplitAggregateInsideOfADamagedFrame(t *testing.T) {
	inside := subframesReference([]byte("one"), nil, []byte("three"))
	for shift := range 4 {
		frames := [][]byte{[]byte("first"), append(plainFrame(2, shift), inside...), []byte("last")}
		whole := impl.AggregateFrames(frames)
		expectSplit(t, whole, frames)
		want := [][]byte{[]byte("first"), []byte("last")}
		if shift == 0 {
			want = [][]byte{[]byte("first"), []byte("one"), {}, []byte("three"), []byte("last")}
		}
		for place := 12; place < 16; place++ {
			expectSplit(t, withByte(whole, place, whole[place]^1), want)
		}
	}
	// The frame inside reaches beyond the damaged one, into the next subframes.
	damaged := slices.Concat([]byte{8, 0, 0, 78, 12, 0, 23, 78, 'a', 'b', 'c', 'd'}, subframesReference([]byte("1234"), []byte("end")))
	damaged[6] = delimiterReference(12)[2]
	expectSplit(t, damaged, [][]byte{slices.Concat([]byte("abcd"), subframeReference([]byte("1234"))), []byte("end")})
}

func TestSplitAggregateOfManySubframes(t *testing.T) {
	for _, count := range []int{7, 8, 9, 10, 16, 17, 100} {
		for _, length := range []int{0, 3, 4, 200} {
			frames := plainFrames(slices.Repeat([]int{length}, count)...)
			whole := subframesReference(frames...)
			expectSplit(t, whole, frames[:min(8, count)])
			// Damaged ones do not count, so the frames behind them are found.
			for i, start := range startsOf(slices.Repeat([]int{length}, count)) {
				others := slices.Delete(slices.Clone(frames), i, i+1)
				expectSplit(t, withByte(whole, start+3, 77), others[:min(8, count-1)])
			}
		}
	}
	// Only what was found counts, however far behind the beginning.
	far := append(make([]byte, 40000), subframesReference(plainFrames(eightLengths...)...)...)
	expectSplit(t, far, plainFrames(eightLengths...))
}

// randomPieces puts subframes, delimiters, parts of them and other bytes behind one another.
func randomPieces(random *rand.Rand) []byte {
	b := []byte{}
	for range random.IntN(12) {
		frame := randomPayload(random, random.IntN(30))
		switch random.IntN(6) {
		case 0:
			b = append(b, delimiterReference(random.IntN(256))...)
		case 1:
			b = append(b, frame...)
		case 2:
			b = append(b, make([]byte, random.IntN(4)*4)...)
		case 3:
			b = append(b, subframeReference(frame)[:random.IntN(len(frame)+5)]...)
		default:
			b = append(b, subframeReference(frame)...)
		}
	}
	return b
}

func TestSplitAggregateOfRandomPieces(t *testing.T) {
	random := rand.New(rand.NewPCG(20, 1))
	for range 20000 {
		b := randomPieces(random)
		expectSplitLikeReference(t, b)
		for range min(len(b), 3) {
			b[random.IntN(len(b))] = byte(random.IntN(256))
		}
		expectSplitLikeReference(t, b)
		for offset := -1; offset < len(b)+2; offset++ {
			expectParsedLikeReference(t, b, offset)
		}
	}
}

func TestSubframeSize(t *testing.T) {
	for _, c := range []struct{ length, want int }{
		{0, 4}, {1, 8}, {2, 8}, {3, 8}, {4, 8}, {5, 12}, {8, 12}, {9, 16}, {99, 104}, {100, 104}, {101, 108}, {196, 200}, {197, 204}, {199, 204}, {200, 204},
	} {
		expectSize(t, c.length, c.want)
	}
	for _, length := range notFrameLengths {
		expectSize(t, length, 0)
	}
	for length := range 201 {
		expectSize(t, length, sizeReference(length))
		expectSize(t, length, len(impl.AggregateFrames(plainFrames(length))))
		expectSize(t, length, len(impl.AggregateFrames(plainFrames(3, length)))-8)
	}
}

func TestAggregateSize(t *testing.T) {
	for _, c := range []struct {
		lengths []int
		want    int
	}{
		{nil, 0},
		{[]int{}, 0},
		{[]int{0}, 4},
		{[]int{5}, 12},
		{[]int{200}, 204},
		{[]int{201}, 0},
		{[]int{-1}, 0},
		{[]int{5, 0, 4, -1}, 24},
		{[]int{5, 201, 0, -1, 4}, 24},
		{[]int{math.MaxInt, 5, math.MinInt, math.MaxInt, 0}, 16},
		{[]int{200, 200, 200, 200, 200, 200, 200, 200}, 1632},
		{slices.Repeat([]int{200}, 20), 4080},
		{eightLengths, 128},
	} {
		expectAggregateSize(t, c.lengths, c.want)
	}
	for _, lengths := range shortLists([]int{0, 1, 2, 3, 4, 200}, 4) {
		expectAggregateSize(t, lengths, len(impl.AggregateFrames(plainFrames(lengths...))))
	}
	for _, length := range notFrameLengths {
		expectAggregateSize(t, []int{length}, 0)
		expectAggregateSize(t, []int{length, 5}, 12)
		expectAggregateSize(t, []int{5, length}, 12)
		expectAggregateSize(t, []int{4, length, 5, length, length}, 20)
	}
}

func TestFitsAggregate(t *testing.T) {
	for _, c := range []struct {
		lengths []int
		next    int
		limit   int
		want    bool
	}{
		{[]int{5}, 4, 20, true},
		{[]int{5}, 4, 19, false},
		{[]int{5}, 4, 21, true},
		{nil, 0, 4, true},
		{nil, 0, 3, false},
		{[]int{}, 0, 4, true},
		{nil, 200, 204, true},
		{nil, 200, 203, false},
		{nil, 201, 1000, false},
		{nil, -1, 1000, false},
		{nil, 201, 0, false},
		{nil, -1, 0, false},
		{nil, -1, math.MaxInt, false},
		{nil, 0, 0, false},
		{nil, 0, -1, false},
		{nil, 0, math.MinInt, false},
		{nil, 0, math.MaxInt, true},
		{[]int{201}, 4, 8, true},
		{[]int{201}, 4, 7, false},
		{[]int{-1, 5, 300}, 4, 20, true},
		{[]int{-1, 5, 300}, 4, 19, false},
		{eightLengths[:7], 4, 128, true},
		{eightLengths[:7], 4, 127, false},
		{eightLengths[:7], 4, math.MaxInt, true},
		{eightLengths, 0, math.MaxInt, false},
		{eightLengths, 0, 1000, false},
		{slices.Repeat([]int{201}, 7), 0, 4, true},
		{slices.Repeat([]int{201}, 8), 0, 4, false},
		{slices.Repeat([]int{-1}, 8), 0, 1000, false},
		{slices.Repeat([]int{0}, 9), 0, 1000, false},
	} {
		expectFits(t, c.lengths, c.next, c.limit, c.want)
	}
}

func TestFitsAggregateAtLimits(t *testing.T) {
	nexts := slices.Concat([]int{0, 1, 4, 5, 199, 200}, notFrameLengths)
	fewLengths := [][]int{nil, {0}, {200}, {5, 0, 9}, {5, -1, 9}, {math.MinInt}, {math.MaxInt, 3}}
	for count := 6; count < 11; count++ {
		fewLengths = append(fewLengths, upTo(count), slices.Repeat([]int{200}, count), slices.Repeat([]int{201}, count))
	}
	for _, lengths := range fewLengths {
		for _, next := range nexts {
			sum := sizeReference(next)
			for _, length := range lengths {
				sum += sizeReference(length)
			}
			for _, limit := range []int{sum - 1, sum, sum + 1, sum - 4, sum + 4, 0, -1, 1, math.MinInt, math.MinInt + sum, math.MaxInt, math.MaxInt - 1} {
				expectFits(t, lengths, next, limit, fitsReference(lengths, next, limit))
			}
		}
	}
}

// An aggregate that is filled as long as frames fit is not longer than its limit, and all its frames are found.
func TestFilledAggregates(t *testing.T) {
	random := rand.New(rand.NewPCG(20, 2))
	for range 3000 {
		limit := random.IntN(1700)
		lengths := []int{}
		for range 20 {
			next := random.IntN(203) - 1
			longer := append(slices.Clone(lengths), next)
			fits := impl.FitsAggregate(lengths, next, limit)
			whole := []byte{}
			if next >= 0 {
				whole = impl.AggregateFrames(plainFrames(longer...))
			}
			if possible := len(whole) > 0 && len(whole) <= limit; fits != possible {
				t.Fatalf("FitsAggregate(%v, %d, %d) is %v, the aggregate has %d bytes", lengths, next, limit, fits, len(whole))
			}
			if fits {
				lengths = longer
				expectSplit(t, whole, plainFrames(lengths...))
				expectAggregateSize(t, lengths, len(whole))
			}
		}
	}
}

// damageDelimiter changes bytes of a delimiter until it is none.
func damageDelimiter(random *rand.Rand, delimiter []byte) {
	for {
		if _, ok := lengthsOfDelimiters[string(delimiter)]; !ok {
			return
		}
		for range random.IntN(4) + 1 {
			delimiter[random.IntN(4)] = byte(random.IntN(256))
		}
	}
}

// Promise 20: the frames of an aggregate are found although others are damaged, in their delimiters, their bytes or both.
func TestFramesAreFoundAlthoughOthersAreDamaged(t *testing.T) {
	random := rand.New(rand.NewPCG(20, 3))
	for range 5000 {
		lengths := []int{}
		for range random.IntN(8) + 1 {
			lengths = append(lengths, random.IntN(201))
		}
		frames := plainFrames(lengths...)
		whole := impl.AggregateFrames(frames)
		want := [][]byte{}
		for i, start := range startsOf(lengths) {
			subframe := whole[start : start+sizeReference(lengths[i])]
			damage := random.IntN(4)
			if damage > 1 {
				// A frame without a byte of 78 contains no delimiter.
				copy(subframe[4:], plainFrame(random.IntN(100), len(subframe)-4))
			}
			if damage%2 == 1 {
				damageDelimiter(random, subframe[:4])
			} else {
				want = append(want, bytes.Clone(subframe[4:4+lengths[i]]))
			}
		}
		expectSplit(t, whole, want)
	}
}

// someFrames are lists of frames of which the first ones may be aggregated.
func someFrames() [][][]byte {
	lists := [][][]byte{nil, {}, {nil}, {{}}, {{}, nil, {}}, plainFrames(1), plainFrames(4, 4), plainFrames(5, 0, 9), plainFrames(eightLengths...), plainFrames(200, 200)}
	return append(lists, plainFrames(201), plainFrames(3, 201, 3), make([][]byte, 9), plainFrames(upTo(9)...))
}

// spareFrames are copies of the frames, all of them and their list with spare capacity that holds marks.
func spareFrames(frames [][]byte) [][]byte {
	list := [][]byte{}
	for _, frame := range frames {
		list = append(list, withSpare(frame...))
	}
	return append(list, []byte("mark"), []byte("mark"))[:len(frames)]
}

func checkSpareFrames(t *testing.T, frames [][]byte, want [][]byte) {
	t.Helper()
	marks := frames[len(want) : len(want)+2]
	if !sameFrames(frames, want) || !sameFrames(marks, [][]byte{[]byte("mark"), []byte("mark")}) {
		t.Errorf("AggregateFrames changed its argument or its spare capacity: %v and %v", frames, marks)
	}
	for i, frame := range frames {
		checkSpare(t, "AggregateFrames", frame, want[i]...)
	}
}

func TestAggregateFramesKeepsItsArguments(t *testing.T) {
	for _, frames := range someFrames() {
		list := spareFrames(frames)
		spoilBody(impl.AggregateFrames(list))
		checkSpareFrames(t, list, frames)
	}
	// The frames may lie in one memory.
	memory := bodyOf(60)
	list := [][]byte{memory[:5], memory[5:25], memory[3:17], memory[60:], memory}
	want := subframesReference(list...)
	expectAggregate(t, list, want)
	spoilBody(impl.AggregateFrames(list))
	if !bytes.Equal(memory, bodyOf(60)) {
		t.Errorf("AggregateFrames changed its argument: %v", memory)
	}
}

func TestAggregatesShareNoMemory(t *testing.T) {
	for _, frames := range someFrames() {
		list := spareFrames(frames)
		answer, other := impl.AggregateFrames(list), impl.AggregateFrames(list)
		want := aggregateReference(frames)
		spoilBody(other)
		if !bytes.Equal(answer, want) {
			t.Errorf("two answers of AggregateFrames(%v) share memory", frames)
		}
		for _, frame := range list {
			spoilBody(frame)
		}
		if !bytes.Equal(answer, want) {
			t.Errorf("the answer of AggregateFrames(%v) shares memory with its argument", frames)
		}
	}
}

func TestDelimitersShareNoMemory(t *testing.T) {
	for _, length := range []int{-1, 0, 5, 200, 201} {
		answer, other := impl.DelimiterBytes(length), impl.DelimiterBytes(length)
		want := bytes.Clone(answer)
		spoilBody(other)
		if !bytes.Equal(answer, want) {
			t.Errorf("two answers of DelimiterBytes(%d) share memory", length)
		}
		expectDelimiter(t, length, want)
	}
}

// someAggregates are undamaged and damaged ones.
func someAggregates() [][]byte {
	whole := subframesReference(plainFrames(eightLengths...)...)
	many := subframesReference(plainFrames(upTo(12)...)...)
	return [][]byte{nil, {}, {1}, {0, 0, 71, 78}, whole, withByte(whole, 2, 9), withByte(whole, 15, 9), whole[:len(whole)-1], whole[:40], many, bodyOf(30), bytes.Repeat([]byte{0, 0, 71, 78}, 9), subframesReference(plainFrames(200, 200)...)}
}

// spoilFrames overwrites all the memory of a list of frames.
func spoilFrames(frames [][]byte) {
	whole := frames[:cap(frames)]
	for i := range whole {
		spoilBody(whole[i])
		whole[i] = []byte("spoilt")
	}
}

func TestSplitAggregateKeepsItsArgument(t *testing.T) {
	for _, want := range someAggregates() {
		b := withSpare(want...)
		spoilFrames(impl.SplitAggregate(b))
		for offset := range len(b) + 1 {
			impl.ParseDelimiter(b, offset)
		}
		checkSpare(t, "SplitAggregate", b, want...)
	}
}

func TestSplitFramesShareNoMemory(t *testing.T) {
	for _, given := range someAggregates() {
		b := withSpare(given...)
		answer, other := impl.SplitAggregate(b), impl.SplitAggregate(b)
		want := splitReference(bytes.Clone(given))
		spoilFrames(other)
		if !sameFrames(answer, want) {
			t.Errorf("two answers of SplitAggregate(%v) share memory", given)
		}
		spoilBody(b)
		if !sameFrames(answer, want) {
			t.Errorf("the answer of SplitAggregate(%v) shares memory with its argument", given)
		}
		for i, frame := range answer {
			// Neither the bytes of a frame nor those that are appended to it reach another one.
			spoilBody(frame)
			if !sameFrames(answer[i+1:], want[i+1:]) {
				t.Errorf("two frames of SplitAggregate(%v) share memory", given)
			}
		}
	}
}

func TestSizesKeepTheirArguments(t *testing.T) {
	for _, lengths := range [][]int{nil, {}, {5}, {5, -1, 201, 0}, eightLengths, upTo(9), {math.MaxInt, math.MinInt}} {
		list := intsWithSpare(lengths...)
		impl.AggregateSize(list)
		checkIntsSpare(t, "AggregateSize", list, lengths...)
		for _, next := range []int{-1, 0, 5, 200, 201} {
			impl.FitsAggregate(list, next, 1000)
			checkIntsSpare(t, "FitsAggregate", list, lengths...)
		}
	}
}

// The calls between two equal calls change nothing, neither the arguments nor what was returned.
func TestAggregatesKeepNoState(t *testing.T) {
	aggregates, splits := [][]byte{}, [][][]byte{}
	for range 2 {
		for _, frames := range someFrames() {
			aggregates = append(aggregates, impl.AggregateFrames(frames))
		}
		for _, b := range someAggregates() {
			splits = append(splits, impl.SplitAggregate(b))
		}
		for _, length := range slices.Concat(upTo(201), notFrameLengths) {
			aggregates = append(aggregates, impl.DelimiterBytes(length))
		}
		for _, c := range fixedDelimiters {
			expectParsed(t, c.bytes, 0, c.length, true)
			expectSize(t, c.length, sizeReference(c.length))
		}
		expectAggregateSize(t, eightLengths, 128)
		expectFits(t, eightLengths[:7], 4, 128, true)
	}
	for i, frames := range someFrames() {
		if !bytes.Equal(aggregates[i], aggregateReference(frames)) {
			t.Errorf("the answer of AggregateFrames(%v) was changed by later calls: %v", frames, aggregates[i])
		}
	}
	for i, b := range someAggregates() {
		if !sameFrames(splits[i], splitReference(b)) {
			t.Errorf("the answer of SplitAggregate(%v) was changed by later calls: %v", b, splits[i])
		}
	}
	half, middle := len(aggregates)/2, len(splits)/2
	if !sameFrames(aggregates[:half], aggregates[half:]) || !slices.EqualFunc(splits[:middle], splits[middle:], sameFrames) {
		t.Error("answers differ from those to the same calls before")
	}
}
