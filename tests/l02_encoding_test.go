package tests

import (
	"bytes"
	"encoding/binary"
	"math"
	"slices"
	"testing"

	"loop.example/g00511/impl"
)

// varints are the encodings at every limit of the number of groups.
var varints = []struct {
	n    int
	code []byte
}{
	{0, []byte{0}},
	{1, []byte{1}},
	{126, []byte{126}},
	{127, []byte{127}},
	{128, []byte{128, 1}},
	{129, []byte{129, 1}},
	{255, []byte{255, 1}},
	{256, []byte{128, 2}},
	{300, []byte{172, 2}},
	{16383, []byte{255, 127}},
	{16384, []byte{128, 128, 1}},
	{2097151, []byte{255, 255, 127}},
	{2097152, []byte{128, 128, 128, 1}},
	{268435455, []byte{255, 255, 255, 127}},
	{268435456, []byte{128, 128, 128, 128, 1}},
	{34359738367, []byte{255, 255, 255, 255, 127}},
	{34359738368, []byte{128, 128, 128, 128, 128, 1}},
	{999999999999, []byte{255, 159, 148, 165, 141, 29}},
	{1000000000000, []byte{128, 160, 148, 165, 141, 29}},
}

// withSpare returns the bytes with spare capacity behind them that holds marks.
func withSpare(data ...byte) []byte {
	whole := append(slices.Clone(data), 201, 202, 203, 204, 205, 206, 207, 208)
	return whole[:len(data)]
}

// checkSpare reports whether data and its spare capacity are as withSpare made them.
func checkSpare(t *testing.T, name string, b []byte, data ...byte) {
	t.Helper()
	want := withSpare(data...)
	if !bytes.Equal(b[:len(want)+8], want[:len(want)+8]) {
		t.Errorf("%s changed its argument or its spare capacity: %v", name, b[:len(want)+8])
	}
}

// spoil overwrites a result and all its capacity, so that memory it shares with others shows.
func spoil(b []byte) {
	b = b[:cap(b)]
	for i := range b {
		b[i] = 99
	}
}

// readReference decodes as chapter 2 says, with the varints of the standard library.
func readReference(b []byte, offset int) (int, int, bool) {
	if offset < 0 || offset > len(b) {
		return 0, 0, false
	}
	n, size := binary.Uvarint(b[offset:])
	if size <= 0 || size > 6 || n > 1000000000000 {
		return 0, 0, false
	}
	if len(binary.AppendUvarint(nil, n)) != size {
		return 0, 0, false
	}
	return int(n), offset + size, true
}

func expectUvarint(t *testing.T, b []byte, offset int, n int, next int, ok bool) {
	t.Helper()
	gotN, gotNext, gotOK := impl.ReadUvarint(b, offset)
	if gotN != n || gotNext != next || gotOK != ok {
		t.Errorf("ReadUvarint(%v, %d) is %d, %d, %v, not %d, %d, %v", b, offset, gotN, gotNext, gotOK, n, next, ok)
	}
}

func expectNoUvarint(t *testing.T, b []byte, offset int) {
	t.Helper()
	expectUvarint(t, b, offset, 0, 0, false)
}

func expectBytes(t *testing.T, b []byte, offset int, maxLen int, data []byte, next int) {
	t.Helper()
	got, gotNext, ok := impl.ReadBytes(b, offset, maxLen)
	if !bytes.Equal(got, data) || gotNext != next || !ok {
		t.Errorf("ReadBytes(%v, %d, %d) is %v, %d, %v, not %v, %d", b, offset, maxLen, got, gotNext, ok, data, next)
	}
}

func expectNoBytes(t *testing.T, b []byte, offset int, maxLen int) {
	t.Helper()
	got, next, ok := impl.ReadBytes(b, offset, maxLen)
	if len(got) != 0 || next != 0 || ok {
		t.Errorf("ReadBytes(%v, %d, %d) is %v, %d, %v", b, offset, maxLen, got, next, ok)
	}
}

func expectInts(t *testing.T, b []byte, offset int, count int, values []int, next int) {
	t.Helper()
	got, gotNext, ok := impl.DecodeInts(b, offset, count)
	if !slices.Equal(got, values) || gotNext != next || !ok {
		t.Errorf("DecodeInts(%v, %d, %d) is %v, %d, %v, not %v, %d", b, offset, count, got, gotNext, ok, values, next)
	}
}

func expectNoInts(t *testing.T, b []byte, offset int, count int) {
	t.Helper()
	got, next, ok := impl.DecodeInts(b, offset, count)
	if len(got) != 0 || next != 0 || ok {
		t.Errorf("DecodeInts(%v, %d, %d) is %v, %d, %v", b, offset, count, got, next, ok)
	}
}

func TestAppendUvarint(t *testing.T) {
	for _, v := range varints {
		if got := impl.AppendUvarint(nil, v.n); !bytes.Equal(got, v.code) {
			t.Errorf("AppendUvarint(nil, %d) is %v, not %v", v.n, got, v.code)
		}
		want := append([]byte{9, 0, 255}, v.code...)
		if got := impl.AppendUvarint([]byte{9, 0, 255}, v.n); !bytes.Equal(got, want) {
			t.Errorf("AppendUvarint of three bytes and %d is %v, not %v", v.n, got, want)
		}
	}
	for n := range 40000 {
		if got, want := impl.AppendUvarint(nil, n), binary.AppendUvarint(nil, uint64(n)); !bytes.Equal(got, want) {
			t.Fatalf("AppendUvarint(nil, %d) is %v, not %v", n, got, want)
		}
	}
}

func TestAppendUvarintOutOfRange(t *testing.T) {
	for _, n := range []int{
		-1, -2, -127, -128, -300, -impl.MaxValue, math.MinInt, math.MinInt + 1, math.MinInt32,
		1000000000001, 1000000000002, 2000000000000, 1 << 42, 1 << 56, math.MaxInt, math.MaxInt - 1,
	} {
		for _, b := range [][]byte{nil, {}, {9}, {9, 128, 0}} {
			if got := impl.AppendUvarint(b, n); !bytes.Equal(got, b) {
				t.Errorf("AppendUvarint(%v, %d) is %v", b, n, got)
			}
		}
	}
}

func TestAppendUvarintKeepsItsArgument(t *testing.T) {
	for _, n := range []int{0, 127, 128, 300, impl.MaxValue, -1, impl.MaxValue + 1} {
		b := withSpare(4, 5)
		got := impl.AppendUvarint(b, n)
		checkSpare(t, "AppendUvarint", b, 4, 5)
		want := slices.Clone(got)
		spoil(got)
		checkSpare(t, "AppendUvarint, by its result,", b, 4, 5)
		// Two results of one argument are apart as well.
		one, two := impl.AppendUvarint(b, n), impl.AppendUvarint(b, n)
		spoil(one)
		spoil(b)
		if !bytes.Equal(two, want) {
			t.Errorf("the result of AppendUvarint for %d shares memory: %v", n, two)
		}
	}
}

func TestReadUvarint(t *testing.T) {
	for _, v := range varints {
		size := len(v.code)
		expectUvarint(t, v.code, 0, v.n, size, true)
		// between other bytes
		b := slices.Concat([]byte{255, 128, 0}, v.code, []byte{128, 255})
		expectUvarint(t, b, 3, v.n, 3+size, true)
		// Every input that ends before the final byte is rejected.
		for end := range size {
			expectNoUvarint(t, v.code[:end], 0)
			expectNoUvarint(t, b[:3+end], 3)
		}
	}
}

func TestReadUvarintOffsets(t *testing.T) {
	b := []byte{172, 2, 5}
	expectUvarint(t, b, 0, 300, 2, true)
	expectUvarint(t, b, 1, 2, 2, true)
	expectUvarint(t, b, 2, 5, 3, true)
	for _, offset := range []int{-1, -2, -3, -4, 3, 4, 5, 100, math.MinInt, math.MinInt + 1, math.MaxInt, math.MaxInt - 1, math.MaxInt - 5} {
		expectNoUvarint(t, b, offset)
		expectNoUvarint(t, nil, offset)
	}
	for _, offset := range []int{0, 1, -1} {
		expectNoUvarint(t, nil, offset)
		expectNoUvarint(t, []byte{}, offset)
	}
	// The spare capacity is not part of the input.
	whole := []byte{172, 2, 5}
	expectNoUvarint(t, whole[:1], 0)
	expectNoUvarint(t, whole[:1], 1)
	expectNoUvarint(t, whole[:0], 0)
}

func TestReadUvarintNotMinimal(t *testing.T) {
	for _, b := range [][]byte{
		{128, 0}, {129, 0}, {255, 0}, {172, 0}, {128, 128, 0}, {172, 130, 0}, {255, 255, 0},
		{128, 128, 128, 0}, {129, 128, 128, 128, 0}, {128, 128, 128, 128, 128, 0}, {255, 255, 255, 255, 255, 0},
	} {
		expectNoUvarint(t, b, 0)
		expectNoUvarint(t, append(slices.Clone(b), 1), 0)
	}
	// Zeros before the last group are minimal, and so is a zero alone.
	expectUvarint(t, []byte{0}, 0, 0, 1, true)
	expectUvarint(t, []byte{0, 0}, 0, 0, 1, true)
	expectUvarint(t, []byte{128, 0}, 1, 0, 2, true)
	expectUvarint(t, []byte{128, 128, 1}, 0, 16384, 3, true)
	expectUvarint(t, []byte{129, 128, 1}, 0, 16385, 3, true)
}

func TestReadUvarintTooLargeOrLong(t *testing.T) {
	for _, b := range [][]byte{
		// six bytes beyond MaxValue
		{129, 160, 148, 165, 141, 29}, {128, 160, 148, 165, 141, 30}, {128, 160, 148, 165, 142, 29},
		{255, 255, 255, 255, 255, 127}, {128, 128, 128, 128, 128, 64}, {128, 128, 128, 128, 128, 30},
		// seven bytes and more, minimal or not
		{128, 128, 128, 128, 128, 128, 1}, {128, 128, 128, 128, 128, 128, 0}, {129, 128, 128, 128, 128, 128, 0},
		{128, 160, 148, 165, 141, 157, 0}, {255, 255, 255, 255, 255, 255, 127},
		{128, 128, 128, 128, 128, 128, 128, 1}, {133, 128, 128, 128, 128, 128, 128, 128, 0},
		// long enough to wrap around an int to a small number
		{133, 128, 128, 128, 128, 128, 128, 128, 128, 2}, {255, 255, 255, 255, 255, 255, 255, 255, 255, 1},
		{133, 128, 128, 128, 128, 128, 128, 128, 128, 128, 1},
		// six and more bytes without an end
		{128, 128, 128, 128, 128, 128}, {255, 255, 255, 255, 255, 255}, bytes.Repeat([]byte{128}, 1000), bytes.Repeat([]byte{255}, 1000),
	} {
		expectNoUvarint(t, b, 0)
		expectNoUvarint(t, append([]byte{128, 1}, b...), 2)
	}
}

// All inputs of up to four bytes that are at a limit of a group.
func TestReadUvarintAgainstReference(t *testing.T) {
	inputs := [][]byte{{}}
	for start := 0; len(inputs[start]) < 4; start++ {
		for _, group := range []byte{0, 1, 29, 127, 128, 129, 172, 255} {
			inputs = append(inputs, append(slices.Clone(inputs[start]), group))
		}
	}
	for _, tail := range []int{0, 3} {
		for _, b := range inputs {
			long := append(bytes.Repeat([]byte{160}, tail), b...)
			for offset := -1; offset <= len(long)+1; offset++ {
				n, next, ok := readReference(long, offset)
				expectUvarint(t, long, offset, n, next, ok)
			}
		}
	}
}

func TestReadUvarintKeepsItsArgument(t *testing.T) {
	b := withSpare(172, 2)
	impl.ReadUvarint(b, 0)
	impl.ReadUvarint(b, 2)
	checkSpare(t, "ReadUvarint", b, 172, 2)
}

func TestAppendBytes(t *testing.T) {
	for _, c := range []struct{ b, data, want []byte }{
		{nil, nil, []byte{0}},
		{nil, []byte{}, []byte{0}},
		{[]byte{}, nil, []byte{0}},
		{[]byte{9}, nil, []byte{9, 0}},
		{[]byte{1}, []byte{7, 8}, []byte{1, 2, 7, 8}},
		{nil, []byte{7}, []byte{1, 7}},
		{nil, []byte{0, 255, 128}, []byte{3, 0, 255, 128}},
		{[]byte{128, 128}, []byte{128}, []byte{128, 128, 1, 128}},
	} {
		if got := impl.AppendBytes(c.b, c.data); !bytes.Equal(got, c.want) {
			t.Errorf("AppendBytes(%v, %v) is %v, not %v", c.b, c.data, got, c.want)
		}
	}
	for _, size := range []int{1, 126, 127, 128, 129, 300, 16383, 16384} {
		data := bytes.Repeat([]byte{17}, size)
		want := append(binary.AppendUvarint([]byte{4}, uint64(size)), data...)
		if got := impl.AppendBytes([]byte{4}, data); !bytes.Equal(got, want) {
			t.Errorf("AppendBytes of %d bytes has %d bytes", size, len(got))
		}
	}
}

func TestAppendBytesKeepsItsArguments(t *testing.T) {
	for _, size := range []int{0, 1, 3} {
		b, data := withSpare(4, 5), withSpare([]byte{7, 8, 9}[:size]...)
		got := impl.AppendBytes(b, data)
		want := append([]byte{4, 5, byte(size)}, data...)
		checkSpare(t, "AppendBytes", b, 4, 5)
		checkSpare(t, "AppendBytes", data, []byte{7, 8, 9}[:size]...)
		spoil(got)
		checkSpare(t, "AppendBytes, by its result,", b, 4, 5)
		checkSpare(t, "AppendBytes, by its result,", data, []byte{7, 8, 9}[:size]...)
		one, two := impl.AppendBytes(b, data), impl.AppendBytes(b, data)
		spoil(one)
		spoil(b)
		spoil(data)
		if !bytes.Equal(two, want) {
			t.Errorf("the result of AppendBytes shares memory: %v", two)
		}
	}
	// One slice may be both arguments.
	b := withSpare(4, 5)
	if got := impl.AppendBytes(b, b); !bytes.Equal(got, []byte{4, 5, 2, 4, 5}) {
		t.Errorf("AppendBytes of a slice to itself is %v", got)
	}
	checkSpare(t, "AppendBytes", b, 4, 5)
}

func TestReadBytes(t *testing.T) {
	b := []byte{1, 2, 7, 8}
	expectBytes(t, b, 1, 2, []byte{7, 8}, 4)
	expectBytes(t, b, 1, 3, []byte{7, 8}, 4)
	expectBytes(t, b, 1, math.MaxInt, []byte{7, 8}, 4)
	expectBytes(t, b, 0, 1, []byte{2}, 2)
	expectBytes(t, append(slices.Clone(b), 9, 9), 1, 2, []byte{7, 8}, 4)
	// an empty byte string, in the middle and at the end
	expectBytes(t, []byte{0}, 0, 0, nil, 1)
	expectBytes(t, []byte{0}, 0, 5, nil, 1)
	expectBytes(t, []byte{5, 0, 6}, 1, 0, nil, 2)
	for _, size := range []int{0, 1, 127, 128, 300, 16384} {
		data := bytes.Repeat([]byte{130}, size)
		encoded := impl.AppendBytes([]byte{3, 3}, data)
		expectBytes(t, encoded, 2, size, data, len(encoded))
		expectBytes(t, append(slices.Clone(encoded), 1), 2, size+1, data, len(encoded))
		expectNoBytes(t, encoded, 2, size-1)
	}
}

func TestReadBytesMaxLen(t *testing.T) {
	b := []byte{3, 7, 8, 9}
	for _, maxLen := range []int{2, 1, 0, -1, -3, math.MinInt} {
		expectNoBytes(t, b, 0, maxLen)
	}
	// Even an empty byte string exceeds a negative limit.
	for _, maxLen := range []int{-1, -2, math.MinInt} {
		expectNoBytes(t, []byte{0}, 0, maxLen)
	}
	// A length within the limit is still more than the input holds.
	expectNoBytes(t, b, 2, 100)
	expectNoBytes(t, b, 3, math.MaxInt)
}

func TestReadBytesRejects(t *testing.T) {
	for _, b := range [][]byte{
		// no length
		nil, {}, {128}, {128, 128},
		// too short by one byte and by many
		{1}, {2, 7}, {3, 7, 8}, {127, 1}, {172, 2, 1, 2, 3},
		// lengths that are not valid varints
		{128, 0}, {129, 0, 7}, {130, 128, 0, 7, 8}, {128, 128, 128, 128, 128, 128, 1}, {255, 255, 255, 255, 255, 127, 7},
		// the longest length, and one beyond it
		{128, 160, 148, 165, 141, 29, 7}, {129, 160, 148, 165, 141, 29, 7},
	} {
		expectNoBytes(t, b, 0, math.MaxInt)
		expectNoBytes(t, b, 0, 1000)
		expectNoBytes(t, append([]byte{0, 0}, b...), 2, math.MaxInt)
	}
	b := []byte{1, 2, 7, 8}
	for _, offset := range []int{-1, -4, 4, 5, 100, math.MinInt, math.MaxInt} {
		expectNoBytes(t, b, offset, 100)
	}
	// The spare capacity is not part of the input.
	expectNoBytes(t, b[:3], 1, 100)
	expectNoBytes(t, b[:2], 1, 100)
	expectNoBytes(t, b[:1], 1, 100)
}

func TestReadBytesKeepsItsArgument(t *testing.T) {
	for _, data := range [][]byte{{2, 7, 8}, {0, 7, 8}, {2, 7, 8, 9}, {3, 7, 8}} {
		b := withSpare(data...)
		got, _, _ := impl.ReadBytes(b, 0, 10)
		want := slices.Clone(got)
		checkSpare(t, "ReadBytes", b, data...)
		spoil(append(got, 1))
		spoil(got)
		checkSpare(t, "ReadBytes, by its result,", b, data...)
		one, _, _ := impl.ReadBytes(b, 0, 10)
		two, _, _ := impl.ReadBytes(b, 0, 10)
		spoil(one)
		spoil(b)
		if !bytes.Equal(two, want) {
			t.Errorf("the result of ReadBytes shares memory: %v", two)
		}
	}
}

func TestEncodeInts(t *testing.T) {
	for _, c := range []struct {
		values []int
		want   []byte
	}{
		{nil, nil},
		{[]int{}, nil},
		{[]int{0}, []byte{0}},
		{[]int{5, 300}, []byte{5, 172, 2}},
		{[]int{300, 5}, []byte{172, 2, 5}},
		{[]int{0, 0, 0}, []byte{0, 0, 0}},
		{[]int{127, 128, impl.MaxValue}, []byte{127, 128, 1, 128, 160, 148, 165, 141, 29}},
		// values out of range are omitted, wherever they are
		{[]int{-1}, nil},
		{[]int{-1, 1000000000001, math.MinInt, math.MaxInt}, nil},
		{[]int{-1, 5, 1000000000001, 300, math.MinInt}, []byte{5, 172, 2}},
		{[]int{5, -5, 6}, []byte{5, 6}},
	} {
		if got := impl.EncodeInts(c.values); !bytes.Equal(got, c.want) {
			t.Errorf("EncodeInts(%v) is %v, not %v", c.values, got, c.want)
		}
	}
	// More values than DecodeInts takes are encoded too.
	values := make([]int, 250)
	for i := range values {
		values[i] = i
	}
	if got := impl.EncodeInts(values); len(got) != 128+2*122 {
		t.Errorf("EncodeInts of 250 values has %d bytes", len(got))
	}
	if values[0] != 0 || values[249] != 249 {
		t.Error("EncodeInts changed its argument")
	}
}

func TestEncodeIntsKeepsItsArgument(t *testing.T) {
	whole := []int{1, -1, 300, 7, 7}
	one, two := impl.EncodeInts(whole[:3]), impl.EncodeInts(whole[:3])
	spoil(one)
	if !slices.Equal(whole, []int{1, -1, 300, 7, 7}) {
		t.Errorf("EncodeInts changed its argument: %v", whole)
	}
	if !bytes.Equal(two, []byte{1, 172, 2}) {
		t.Errorf("two results of EncodeInts share memory: %v", two)
	}
}

func TestDecodeInts(t *testing.T) {
	b := []byte{5, 172, 2, 0, 7}
	expectInts(t, b, 0, 1, []int{5}, 1)
	expectInts(t, b, 0, 2, []int{5, 300}, 3)
	expectInts(t, b, 0, 3, []int{5, 300, 0}, 4)
	expectInts(t, b, 0, 4, []int{5, 300, 0, 7}, 5)
	expectInts(t, b, 1, 2, []int{300, 0}, 4)
	expectInts(t, b, 4, 1, []int{7}, 5)
	// No varints are decoded at every offset of the input, its end included.
	for offset := range len(b) + 1 {
		expectInts(t, b, offset, 0, nil, offset)
	}
	expectInts(t, nil, 0, 0, nil, 0)
	expectInts(t, []byte{}, 0, 0, nil, 0)
	expectInts(t, []byte{128}, 0, 0, nil, 0)
	for _, v := range varints {
		expectInts(t, v.code, 0, 1, []int{v.n}, len(v.code))
		expectInts(t, slices.Concat(v.code, []byte{4}, v.code), 0, 3, []int{v.n, 4, v.n}, 2*len(v.code)+1)
	}
}

func TestDecodeIntsCounts(t *testing.T) {
	values := make([]int, 102)
	for i := range values {
		values[i] = 100 + i
	}
	b := impl.EncodeInts(values)
	for _, count := range []int{0, 1, 28, 29, 99, 100} {
		expectInts(t, b, 0, count, values[:count], count+max(0, count-28))
		expectInts(t, b, 1, count, values[1:count+1], 1+count+max(0, count-27))
	}
	for _, count := range []int{101, 102, 1000, -1, -2, -100, math.MinInt, math.MaxInt, impl.MaxValue} {
		expectNoInts(t, b, 0, count)
		expectNoInts(t, b, len(b), count)
		expectNoInts(t, nil, 0, count)
	}
}

func TestDecodeIntsRejects(t *testing.T) {
	b := []byte{5, 172, 2}
	// offsets out of range, also if nothing is to be decoded
	for _, offset := range []int{-1, -3, 4, 5, 100, math.MinInt, math.MaxInt} {
		for _, count := range []int{0, 1, 2, 100} {
			expectNoInts(t, b, offset, count)
		}
	}
	expectNoInts(t, nil, 1, 0)
	expectNoInts(t, nil, -1, 0)
	// inputs that end too early
	expectNoInts(t, b, 0, 3)
	expectNoInts(t, b, 0, 100)
	expectNoInts(t, b, 3, 1)
	expectNoInts(t, b[:2], 0, 2)
	expectNoInts(t, b[:1], 0, 2)
	expectNoInts(t, nil, 0, 1)
	// an invalid varint, first, in the middle and last
	for _, bad := range [][]byte{
		{128, 0}, {172, 130, 0}, {129, 160, 148, 165, 141, 29}, {128, 128, 128, 128, 128, 128, 1}, bytes.Repeat([]byte{128}, 20),
	} {
		expectNoInts(t, append(slices.Clone(bad), 1, 1), 0, 3)
		expectNoInts(t, slices.Concat([]byte{1}, bad, []byte{1}), 0, 3)
		expectNoInts(t, slices.Concat([]byte{1, 1}, bad), 0, 3)
		expectInts(t, slices.Concat([]byte{1, 1}, bad), 0, 2, []int{1, 1}, 2)
	}
}

func TestDecodeIntsKeepsItsArgument(t *testing.T) {
	b := withSpare(5, 172, 2)
	one, _, _ := impl.DecodeInts(b, 0, 2)
	two, _, _ := impl.DecodeInts(b, 0, 2)
	impl.DecodeInts(b, 0, 3)
	checkSpare(t, "DecodeInts", b, 5, 172, 2)
	clear(one[:cap(one)])
	spoil(b)
	if !slices.Equal(two, []int{5, 300}) {
		t.Errorf("the result of DecodeInts shares memory: %v", two)
	}
}

// What is encoded is decoded, and what is decoded has one encoding only.
func TestEncodingsRoundTrip(t *testing.T) {
	for _, n := range integers() {
		code := impl.AppendUvarint(nil, n)
		inside := n >= 0 && n <= 1000000000000
		if !inside {
			if len(code) != 0 {
				t.Errorf("AppendUvarint(nil, %d) is %v", n, code)
			}
			continue
		}
		expectUvarint(t, code, 0, n, len(code), true)
		expectInts(t, impl.EncodeInts([]int{n, n}), 0, 2, []int{n, n}, 2*len(code))
	}
	for first := range 256 {
		for second := range 256 {
			b := []byte{byte(first), byte(second)}
			if n, next, ok := impl.ReadUvarint(b, 0); ok && !bytes.Equal(impl.AppendUvarint(nil, n), b[:next]) {
				t.Errorf("%v is decoded to %d, which has another encoding", b, n)
			}
		}
	}
}

func TestEqualBytes(t *testing.T) {
	for _, c := range []struct {
		a, b []byte
		want bool
	}{
		{nil, nil, true}, {nil, []byte{}, true}, {[]byte{}, nil, true}, {[]byte{}, []byte{}, true},
		{[]byte{0}, []byte{0}, true}, {[]byte{7, 8}, []byte{7, 8}, true},
		{nil, []byte{0}, false}, {[]byte{0}, nil, false}, {[]byte{0}, []byte{0, 0}, false},
		{[]byte{7, 8}, []byte{7}, false}, {[]byte{7}, []byte{7, 8}, false},
		{[]byte{7, 8}, []byte{8, 7}, false}, {[]byte{7, 8}, []byte{7, 9}, false}, {[]byte{6, 8}, []byte{7, 8}, false},
		{[]byte{1, 2, 3}, []byte{1, 0, 3}, false}, {[]byte{0}, []byte{128}, false}, {[]byte{255}, []byte{127}, false},
		{withSpare(7, 8), []byte{7, 8}, true},
	} {
		if got := impl.EqualBytes(c.a, c.b); got != c.want {
			t.Errorf("EqualBytes(%v, %v) is %v", c.a, c.b, got)
		}
	}
	// Every byte is equal to itself only, whatever character it may stand for.
	for a := range 256 {
		for b := range 256 {
			if got := impl.EqualBytes([]byte{1, byte(a)}, []byte{1, byte(b)}); got != (a == b) {
				t.Errorf("EqualBytes of 1, %d and 1, %d is %v", a, b, got)
			}
		}
	}
}
