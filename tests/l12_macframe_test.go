package tests

import (
	"encoding/binary"
	"fmt"
	"math"
	"math/rand/v2"
	"slices"
	"testing"

	"loop.example/g00511/impl"
)

// frameKind is what the chapter says of a kind; reply is the kind of the answer to a frame for a station.
type frameKind struct {
	name             string
	group, body, ack bool
	reply            int
}

// frameKinds has the kinds from 1 to 7.
var frameKinds = []frameKind{
	{"data", true, true, true, 2}, {"ack", false, false, false, 0}, {"request", false, false, false, 4}, {"grant", false, false, false, 0},
	{"beacon", true, true, false, 0}, {"management", true, true, true, 2}, {"poll", false, false, false, 2},
}

// The lists beginning with not are out of range; the lowest bits of some of them are those of a value in range.
var (
	stations    = []int{0, 1, 7, 14, 15}
	notStations = []int{-1, 16, 63, 17, 31, 32, 62, 64, -15, -16, -63, 127, 128, 255, 256, 319, 1 << 32, 1<<32 + 1, 1<<32 + 63, -1<<32 + 1, math.MinInt, math.MinInt + 1, math.MinInt + 63, math.MaxInt - 1, math.MaxInt}
	notKinds    = []int{0, 8, -1, -2, -7, 9, 15, 16, 257, 1 << 32, 1<<32 + 1, -1<<32 + 5, math.MinInt, math.MinInt + 1, math.MinInt + 7, math.MaxInt - 1, math.MaxInt}

	seqs         = []int{0, 1, 127, 128, 4094, 4095}
	notSeqs      = []int{-1, 4096, -2, -4095, 4097, 65536, 1 << 32, 1<<32 + 7, math.MinInt, math.MinInt + 7, math.MaxInt - 1, math.MaxInt}
	fragments    = []int{0, 1, 14, 15}
	notFragments = []int{-1, 16, -2, -15, 17, 256, 1 << 32, 1<<32 + 1, math.MinInt, math.MinInt + 1, math.MaxInt - 1, math.MaxInt}
	durations    = []int{0, 1, 127, 128, 999, 1000}
	notDurations = []int{-1, 1001, -2, -1000, 1002, 65536, 1 << 32, 1<<32 + 5, math.MinInt, math.MinInt + 5, math.MaxInt - 1, math.MaxInt}
)

// fieldLimits are the least and the greatest value of each number of an encoding.
var fieldLimits = [7][2]int{{1, 7}, {0, 15}, {0, 15}, {0, 4095}, {0, 15}, {0, 3}, {0, 1000}}

// fixedFrames have encodings that were computed apart from the program; the fields are in the order of the encoding.
var fixedFrames = []struct {
	fields [7]int
	body   string
	code   string
}{
	{[7]int{1, 1, 2, 7, 1, 1, 5}, "hi", "010102070101056869df2d"},
	{[7]int{1, 0, 1, 0, 0, 0, 0}, "", "01000100000000e118"},
	{[7]int{1, 15, 63, 4095, 15, 3, 1000}, "abc", "010f3fff1f0f03e8076162638017"},
	{[7]int{1, 2, 14, 128, 15, 2, 127}, "\x00", "01020e80010f027f00ff0b"},
	{[7]int{2, 1, 0, 0, 0, 0, 0}, "", "02010000000000e0bf"},
	{[7]int{2, 15, 14, 127, 8, 1, 128}, "", "020f0e7f0801800104f5"},
	{[7]int{3, 0, 15, 300, 0, 2, 999}, "", "03000fac020002e7073cbc"},
	{[7]int{4, 7, 8, 4094, 3, 3, 1}, "", "040708fe1f0303012e28"},
	{[7]int{5, 1, 63, 0, 0, 2, 0}, "", "05013f0000020065f5"},
	{[7]int{5, 15, 0, 255, 1, 0, 256}, "\xff\x00\x80", "050f00ff0101008002ff008032af"},
	{[7]int{6, 3, 63, 129, 0, 0, 1000}, "join", "06033f81010000e8076a6f696e26b8"},
	{[7]int{6, 9, 10, 1, 2, 3, 4}, "", "06090a010203042978"},
	{[7]int{7, 14, 15, 4095, 15, 0, 0}, "", "070e0fff1f0f0000106a"},
	{[7]int{1, 4, 5, 6, 7, 0, 8}, string(allBytes()[:100]), "010405060700080001020304050607" +
		"08090a0b0c0d0e0f101112131415161718191a1b1c1d1e1f202122232425262728292a2b2c2d2e2f303132333435" +
		"363738393a3b3c3d3e3f404142434445464748494a4b4c4d4e4f505152535455565758595a5b5c5d5e5f606162631589"},
}

// frameOfFields returns the frame with these numbers, of which the sixth is 1 for More plus 2 for Retry.
func frameOfFields(n [7]int, body []byte) impl.MacFrame {
	return impl.MacFrame{Kind: n[0], From: n[1], To: n[2], Seq: n[3], Fragment: n[4], More: n[5]%2 == 1, Retry: n[5]/2 == 1, Duration: n[6], Body: body}
}

// simpleFrame returns a frame without a body whose other fields are in range.
func simpleFrame(kind int, from int, to int) impl.MacFrame {
	return impl.MacFrame{Kind: kind, From: from, To: to, Seq: 7, Fragment: 1, Duration: 5}
}

func sameFrame(a impl.MacFrame, b impl.MacFrame) bool {
	same := slices.Equal(a.Body, b.Body)
	a.Body, b.Body = nil, nil
	return same && fmt.Sprintf("%#v", a) == fmt.Sprintf("%#v", b)
}

// validReference looks for the kind in the table, and for the addresses among those that are left.
func validReference(f impl.MacFrame) bool {
	if f.Kind < 1 || f.Kind > 7 || len(f.Body) > 100 {
		return false
	}
	kind := frameKinds[f.Kind-1]
	receivers := slices.DeleteFunc(upTo(16), func(station int) bool { return station == f.From })
	if len(receivers) != 15 {
		return false
	}
	if kind.group {
		receivers = append(receivers, 63)
	}
	if !slices.Contains(receivers, f.To) || len(f.Body) > 0 && !kind.body {
		return false
	}
	return f.Seq == max(0, min(f.Seq, 4095)) && f.Fragment == max(0, min(f.Fragment, 15)) && f.Duration == max(0, min(f.Duration, 1000))
}

// checked returns the bytes with the check that makes them a frame of chapter 5.
func checked(data []byte) []byte {
	check := checkReference(data)
	return append(slices.Clone(data), byte(check%256), byte(check/256))
}

// codeOfFields returns what encodes the numbers and the body, in range or not.
func codeOfFields(n [7]int, body []byte) []byte {
	data := []byte{}
	for _, v := range n {
		data = binary.AppendUvarint(data, uint64(v))
	}
	return checked(append(data, body...))
}

func fieldsOf(f impl.MacFrame) [7]int {
	flags := 0
	if f.More {
		flags = 1
	}
	if f.Retry {
		flags += 2
	}
	return [7]int{f.Kind, f.From, f.To, f.Seq, f.Fragment, flags, f.Duration}
}

func codeOfFrame(f impl.MacFrame) []byte {
	return codeOfFields(fieldsOf(f), f.Body)
}

// decodedReference reads the numbers one by one, and accepts a frame only if its encoding is b again.
func decodedReference(b []byte) (impl.MacFrame, bool) {
	n := [7]int{}
	next, ok := 0, len(b) >= 2
	for i := range n {
		if ok {
			n[i], next, ok = readReference(b[:len(b)-2], next)
		}
	}
	if !ok || n[5] > 3 || !slices.Equal(checked(b[:len(b)-2]), b) {
		return impl.MacFrame{}, false
	}
	f := frameOfFields(n, b[next:len(b)-2])
	if !validReference(f) || !slices.Equal(codeOfFrame(f), b) {
		return impl.MacFrame{}, false
	}
	return f, true
}

// limitFrames are valid frames of each kind with all fields at and beside their limits.
func limitFrames() []impl.MacFrame {
	list := []impl.MacFrame{}
	for i, kind := range frameKinds {
		bodies := [][]byte{nil}
		if kind.body {
			bodies = [][]byte{nil, {}, {0}, {255}, []byte("hi"), allBytes()[156:255], allBytes()[156:]}
		}
		receivers := []int{0, 9, 15}
		if kind.group {
			receivers = append(receivers, 63)
		}
		for j, seq := range seqs {
			for k, duration := range durations {
				for flags := range 4 {
					n := [7]int{i + 1, []int{1, 8, 14}[j%3], receivers[(j+k+flags)%len(receivers)], seq, fragments[k%4], flags, duration}
					list = append(list, frameOfFields(n, bodies[(j+k+flags)%len(bodies)]))
				}
			}
		}
	}
	return list
}

// spoiltFrames are copies of the frame, each with one field out of range.
func spoiltFrames(f impl.MacFrame) []impl.MacFrame {
	list := []impl.MacFrame{}
	add := func(values []int, set func(*impl.MacFrame, int)) {
		for _, v := range values {
			changed := f
			set(&changed, v)
			list = append(list, changed)
		}
	}
	add(notKinds, func(f *impl.MacFrame, v int) { f.Kind = v })
	add(notStations, func(f *impl.MacFrame, v int) { f.From = v })
	add(slices.DeleteFunc(slices.Clone(notStations), func(v int) bool { return v == 63 }), func(f *impl.MacFrame, v int) { f.To = v })
	add([]int{f.From}, func(f *impl.MacFrame, v int) { f.To = v })
	add(notSeqs, func(f *impl.MacFrame, v int) { f.Seq = v })
	add(notFragments, func(f *impl.MacFrame, v int) { f.Fragment = v })
	add(notDurations, func(f *impl.MacFrame, v int) { f.Duration = v })
	add([]int{101, 102, 127, 128, 356, 65536}, func(f *impl.MacFrame, v int) { f.Body = make([]byte, v) })
	if !frameKinds[f.Kind-1].group {
		add([]int{63}, func(f *impl.MacFrame, v int) { f.To = v })
		add([]int{1, 2, 100}, func(f *impl.MacFrame, v int) { f.Body = make([]byte, v) })
	}
	return list
}

func expectValidFrame(t *testing.T, f impl.MacFrame, want bool) {
	t.Helper()
	if got := impl.IsValidFrame(f); got != want {
		t.Errorf("IsValidFrame(%v) is %v", f, got)
	}
}

func expectFrame(t *testing.T, b []byte, want impl.MacFrame, ok bool) {
	t.Helper()
	if got, valid := impl.DecodeFrame(b); !sameFrame(got, want) || valid != ok {
		t.Errorf("DecodeFrame(%v) is %v, %v, not %v, %v", b, got, valid, want, ok)
	}
}

func expectNoFrame(t *testing.T, b []byte) {
	t.Helper()
	expectFrame(t, b, impl.MacFrame{}, false)
}

func expectDecodedLikeReference(t *testing.T, b []byte) {
	t.Helper()
	f, ok := decodedReference(b)
	expectFrame(t, b, f, ok)
}

func expectKinds(t *testing.T, f impl.MacFrame, ack bool, reply int) {
	t.Helper()
	if gotAck, gotReply := impl.NeedsAck(f), impl.ReplyKind(f); gotAck != ack || gotReply != reply {
		t.Errorf("NeedsAck and ReplyKind of %v are %v, %d, not %v, %d", f, gotAck, gotReply, ack, reply)
	}
}

func expectReply(t *testing.T, f impl.MacFrame, want impl.MacFrame, ok bool) {
	t.Helper()
	if got, answers := impl.ReplyTo(f); !sameFrame(got, want) || answers != ok {
		t.Errorf("ReplyTo(%v) is %v, %v, not %v, %v", f, got, answers, want, ok)
	}
}

func expectNoReply(t *testing.T, f impl.MacFrame) {
	t.Helper()
	expectReply(t, f, impl.MacFrame{}, false)
}

func expectText(t *testing.T, f impl.MacFrame, want string) {
	t.Helper()
	if got := impl.FormatFrame(f); got != want {
		t.Errorf("FormatFrame(%v) is %q, not %q", f, got, want)
	}
}

func TestConstantsOfFrames(t *testing.T) {
	if impl.MaxStations != 16 || impl.Group != 63 || impl.MaxSeq != 4095 || impl.MaxFragment != 15 || impl.MaxBody != 100 || impl.MaxDuration != 1000 {
		t.Error(impl.MaxStations, impl.Group, impl.MaxSeq, impl.MaxFragment, impl.MaxBody, impl.MaxDuration)
	}
	kinds := []int{impl.FrameData, impl.FrameAck, impl.FrameRequest, impl.FrameGrant, impl.FrameBeacon, impl.FrameManagement, impl.FramePoll}
	if !slices.Equal(kinds, []int{1, 2, 3, 4, 5, 6, 7}) {
		t.Error(kinds)
	}
}

func TestIsValidFrameOfKinds(t *testing.T) {
	for kind := 1; kind <= 7; kind++ {
		expectValidFrame(t, simpleFrame(kind, 1, 2), true)
	}
	for _, kind := range notKinds {
		for _, to := range []int{2, 63} {
			expectValidFrame(t, simpleFrame(kind, 1, to), false)
		}
	}
	expectValidFrame(t, impl.MacFrame{}, false)
	expectValidFrame(t, impl.MacFrame{Kind: 1}, false)
	expectValidFrame(t, impl.MacFrame{Kind: 1, To: 1}, true)
}

// Only data, beacons and management are for the group, and the group sends nothing.
func TestIsValidFrameOfGroup(t *testing.T) {
	for i, want := range []bool{true, false, false, false, true, true, false} {
		kind := i + 1
		expectValidFrame(t, simpleFrame(kind, 0, 63), want)
		expectValidFrame(t, simpleFrame(kind, 15, 63), want)
		for _, to := range []int{62, 64} {
			expectValidFrame(t, simpleFrame(kind, 0, to), false)
		}
		for _, to := range []int{0, 15, 16, 62, 63, 64} {
			expectValidFrame(t, simpleFrame(kind, 63, to), false)
		}
	}
}

func TestIsValidFrameOfAllStations(t *testing.T) {
	for kind := 1; kind <= 7; kind++ {
		for from := -2; from <= 70; from++ {
			for to := -2; to <= 70; to++ {
				f := simpleFrame(kind, from, to)
				expectValidFrame(t, f, validReference(f))
			}
		}
	}
}

func TestIsValidFrameOfAddresses(t *testing.T) {
	for _, kind := range slices.Concat([]int{1, 2, 3, 4, 5, 6, 7}, notKinds) {
		for _, from := range slices.Concat(stations, notStations) {
			for _, to := range slices.Concat(stations, notStations) {
				f := simpleFrame(kind, from, to)
				expectValidFrame(t, f, validReference(f))
			}
		}
	}
}

func TestIsValidFrameOfNumbers(t *testing.T) {
	for kind := 1; kind <= 7; kind++ {
		for _, seq := range slices.Concat(seqs, notSeqs) {
			for _, fragment := range slices.Concat(fragments, notFragments) {
				for _, duration := range slices.Concat(durations, notDurations) {
					f := impl.MacFrame{Kind: kind, To: 1, Seq: seq, Fragment: fragment, Duration: duration}
					valid := slices.Contains(seqs, seq) && slices.Contains(fragments, fragment) && slices.Contains(durations, duration)
					expectValidFrame(t, f, valid)
				}
			}
		}
	}
	for seq := range 4096 {
		f := impl.MacFrame{Kind: 1, To: 1, Seq: seq, Fragment: seq % 16, Duration: min(seq, 1000), More: seq%2 == 0, Retry: seq%4 < 2}
		expectValidFrame(t, f, true)
	}
}

func TestIsValidFrameOfBodies(t *testing.T) {
	for i, kind := range frameKinds {
		for flags := range 4 {
			n := [7]int{i + 1, 1, 2, 7, 1, flags, 5}
			expectValidFrame(t, frameOfFields(n, nil), true)
			expectValidFrame(t, frameOfFields(n, []byte{}), true)
			for length := 1; length <= 100; length++ {
				expectValidFrame(t, frameOfFields(n, make([]byte, length)), kind.body)
			}
			for _, length := range []int{101, 102, 127, 128, 256, 257, 356, 65536} {
				expectValidFrame(t, frameOfFields(n, make([]byte, length)), false)
			}
		}
	}
	// What is behind the body in memory does not count.
	expectValidFrame(t, frameOfFields([7]int{1, 1, 2}, make([]byte, 100, 200)), true)
	expectValidFrame(t, frameOfFields([7]int{2, 1, 2}, make([]byte, 0, 200)), true)
}

// One field out of range suffices.
func TestIsValidFrameRejects(t *testing.T) {
	for _, f := range limitFrames() {
		expectValidFrame(t, f, true)
	}
	for kind := 1; kind <= 7; kind++ {
		for _, f := range spoiltFrames(simpleFrame(kind, 1, 2)) {
			expectValidFrame(t, f, false)
		}
	}
}

func TestEncodeFrame(t *testing.T) {
	for _, c := range fixedFrames {
		f := frameOfFields(c.fields, []byte(c.body))
		code := impl.EncodeFrame(f)
		if got := fmt.Sprintf("%x", code); got != c.code {
			t.Errorf("EncodeFrame(%v) is %s, not %s", f, got, c.code)
		}
		expectFrame(t, code, f, true)
	}
}

func TestEncodeFrameAgainstReference(t *testing.T) {
	for _, f := range limitFrames() {
		want := codeOfFrame(f)
		if got := impl.EncodeFrame(f); !slices.Equal(got, want) {
			t.Errorf("EncodeFrame(%v) is %v, not %v", f, got, want)
		}
		expectFrame(t, want, f, true)
	}
}

// All addresses, sequence numbers, fragments, durations and lengths of bodies.
func TestFramesAreRestored(t *testing.T) {
	for seq := range 4096 {
		n := [7]int{1, seq % 16, (seq + 1 + seq/16%15) % 16, seq, seq / 16 % 16, seq % 4, seq % 1001}
		f := frameOfFields(n, allBytes()[:seq%101])
		code := impl.EncodeFrame(f)
		if !slices.Equal(code, codeOfFrame(f)) {
			t.Errorf("EncodeFrame(%v) is %v", f, code)
		}
		expectFrame(t, code, f, true)
	}
}

func TestEncodeFrameRejects(t *testing.T) {
	for kind := 1; kind <= 7; kind++ {
		for _, f := range spoiltFrames(simpleFrame(kind, 1, 2)) {
			if got := impl.EncodeFrame(f); len(got) != 0 {
				t.Errorf("EncodeFrame(%v) is %v", f, got)
			}
		}
	}
	if got := impl.EncodeFrame(impl.MacFrame{}); len(got) != 0 {
		t.Errorf("EncodeFrame of the zero frame is %v", got)
	}
}

func TestDecodeFrameOfChangedBits(t *testing.T) {
	for _, c := range fixedFrames {
		code := codeOfFields(c.fields, []byte(c.body))
		for i := range 8 * len(code) {
			expectNoFrame(t, inverted(code, i))
		}
	}
	for i, f := range limitFrames() {
		code := codeOfFrame(f)
		expectNoFrame(t, inverted(code, i%(8*len(code))))
	}
}

// The check is right again, so that the changed frame may be another valid one.
func TestDecodeFrameOfChangedBitsWithRightCheck(t *testing.T) {
	for _, f := range limitFrames() {
		code := codeOfFrame(f)
		for i := range 8 * min(len(code)-2, 12) {
			expectDecodedLikeReference(t, checked(inverted(code, i)[:len(code)-2]))
		}
	}
}

func TestDecodeFrameOfOtherLengths(t *testing.T) {
	for _, f := range limitFrames() {
		code := codeOfFrame(f)
		for length := range code {
			expectDecodedLikeReference(t, code[:length])
			// The data may end behind any byte, with the right check.
			expectDecodedLikeReference(t, checked(code[:length]))
		}
		for _, b := range []byte{0, 1, 127, 128, 255, code[len(code)-1]} {
			expectDecodedLikeReference(t, append(slices.Clone(code), b))
			expectDecodedLikeReference(t, slices.Insert(slices.Clone(code), 0, b))
		}
	}
	// None of these is by chance a frame with the right check.
	for _, c := range fixedFrames {
		code := codeOfFields(c.fields, []byte(c.body))
		for length := range code {
			expectNoFrame(t, code[:length])
		}
		for b := range 256 {
			expectNoFrame(t, append(slices.Clone(code), byte(b)))
		}
	}
}

func TestDecodeFrameOfShortBytes(t *testing.T) {
	expectNoFrame(t, nil)
	expectNoFrame(t, []byte{})
	for first := range 256 {
		expectNoFrame(t, []byte{byte(first)})
		for second := range 256 {
			expectNoFrame(t, []byte{byte(first), byte(second)})
		}
		expectNoFrame(t, checked([]byte{byte(first)}))
	}
	expectNoFrame(t, checked(nil))
	expectNoFrame(t, make([]byte, 9))
	expectNoFrame(t, slices.Repeat([]byte{255}, 9))
}

// The numbers of a frame have one encoding each.
func TestDecodeFrameOfOtherVarints(t *testing.T) {
	for _, body := range [][]byte{nil, {0}, []byte("hi")} {
		for place := range 7 {
			for _, bad := range [][]byte{
				{129, 0}, {128, 0}, {129, 128, 0}, {129, 128, 128, 128, 128, 0}, {129, 128, 128, 128, 128, 128, 0},
				{129, 160, 148, 165, 141, 29}, {255, 255, 255, 255, 255, 255, 255, 255, 255, 1},
			} {
				parts := [][]byte{{1}, {0}, {3}, {2}, {1}, {1}, {1}, body}
				expectFrame(t, checked(slices.Concat(parts...)), frameOfFields([7]int{1, 0, 3, 2, 1, 1, 1}, body), true)
				parts[place] = bad
				expectNoFrame(t, checked(slices.Concat(parts...)))
			}
		}
	}
	// a sequence number and a duration with a group of zeros behind two groups
	expectNoFrame(t, checked([]byte{1, 0, 3, 128, 129, 0, 1, 1, 1}))
	expectNoFrame(t, checked([]byte{1, 0, 3, 2, 1, 1, 128, 129, 0}))
	expectFrame(t, checked([]byte{1, 0, 3, 128, 1, 1, 1, 129, 1}), frameOfFields([7]int{1, 0, 3, 128, 1, 1, 129}, nil), true)
}

func TestDecodeFrameOfTooFewNumbers(t *testing.T) {
	for kind := 1; kind <= 7; kind++ {
		data := []byte{byte(kind), 0, 3, 2, 1, 1, 5}
		for count := range 7 {
			expectNoFrame(t, checked(data[:count]))
			// a last number without its end
			expectNoFrame(t, checked(append(slices.Clone(data[:count]), 128)))
		}
		expectFrame(t, checked(data), frameOfFields([7]int{kind, 0, 3, 2, 1, 1, 5}, nil), true)
	}
}

// Each number at its limits and beyond them, the check being right.
func TestDecodeFrameOfNumbersOutOfRange(t *testing.T) {
	for place, limits := range fieldLimits {
		for _, v := range limits {
			for _, to := range []int{2, 63} {
				n := [7]int{1, 3, to, 7, 1, 0, 5}
				n[place] = v
				expectDecodedLikeReference(t, codeOfFields(n, nil))
			}
		}
		for _, v := range []int{limits[1] + 1, limits[1] + 2, 127, 128, 255, 256, 16383, 65536, 1 << 32, 1<<32 + limits[1], 999999999999, 1000000000000} {
			n := [7]int{1, 3, 2, 7, 1, 0, 5}
			n[place] = v
			if v > limits[1] {
				expectNoFrame(t, codeOfFields(n, nil))
			}
		}
	}
	expectNoFrame(t, codeOfFields([7]int{0, 3, 2, 7, 1, 0, 5}, nil))
	expectFrame(t, codeOfFields([7]int{1, 3, 2, 7, 1, 0, 5}, nil), simpleFrame(1, 3, 2), true)
}

func TestDecodeFrameOfFlags(t *testing.T) {
	for kind := 1; kind <= 7; kind++ {
		for flags := range 300 {
			n := [7]int{kind, 3, 2, 7, 1, flags, 5}
			if flags > 3 {
				expectNoFrame(t, codeOfFields(n, nil))
				continue
			}
			f := simpleFrame(kind, 3, 2)
			f.More, f.Retry = flags == 1 || flags == 3, flags >= 2
			expectFrame(t, codeOfFields(n, nil), f, true)
		}
		for _, flags := range []int{1024, 65537, 1<<32 + 1, 1<<32 + 2, 999999999999, 1000000000000} {
			expectNoFrame(t, codeOfFields([7]int{kind, 3, 2, 7, 1, flags, 5}, nil))
		}
	}
}

func TestDecodeFrameOfAddresses(t *testing.T) {
	for kind := 1; kind <= 7; kind++ {
		for from := range 66 {
			for to := range 66 {
				f := simpleFrame(kind, from, to)
				if validReference(f) {
					expectFrame(t, codeOfFrame(f), f, true)
				} else {
					expectNoFrame(t, codeOfFrame(f))
				}
			}
		}
	}
}

func TestDecodeFrameOfBodies(t *testing.T) {
	for i, kind := range frameKinds {
		f := simpleFrame(i+1, 1, 2)
		for length := range 103 {
			f.Body = allBytes()[100 : 100+length]
			if length == 0 || kind.body && length <= 100 {
				expectFrame(t, codeOfFrame(f), f, true)
			} else {
				expectNoFrame(t, codeOfFrame(f))
			}
		}
		for _, length := range []int{127, 128, 256, 356, 65536} {
			f.Body = make([]byte, length)
			expectNoFrame(t, codeOfFrame(f))
		}
	}
}

func TestDecodeFrameAgainstReference(t *testing.T) {
	random := rand.New(rand.NewPCG(12, 1))
	choices := []int{0, 1, 2, 3, 4, 5, 6, 7, 8, 15, 16, 63, 127, 128, 1000, 1001, 4095, 4096}
	accepted := 0
	for range 20000 {
		n := [7]int{}
		for i, limits := range fieldLimits {
			n[i] = limits[0] + random.IntN(limits[1]-limits[0]+1)
			if random.IntN(20) == 0 {
				n[i] = choices[random.IntN(len(choices))]
			}
		}
		body := randomPayload(random, []int{0, 0, 0, 1, 5, 100, 101}[random.IntN(7)])
		code := codeOfFields(n, body)
		if _, ok := decodedReference(code); ok {
			accepted++
		}
		expectDecodedLikeReference(t, code)
		data := code[:len(code)-2]
		data[random.IntN(len(data))] = byte(random.IntN(256))
		expectDecodedLikeReference(t, checked(data))
		expectDecodedLikeReference(t, checked(randomPayload(random, random.IntN(12))))
	}
	if accepted < 2000 || accepted > 18000 {
		t.Errorf("%d of the samples are valid", accepted)
	}
}

func TestKindsOfReplies(t *testing.T) {
	for i, kind := range frameKinds {
		for _, from := range stations {
			for _, to := range slices.Concat(stations, notStations) {
				f := simpleFrame(i+1, from, to)
				reply := kind.reply
				if kind.ack && to == 63 {
					reply = 0
				}
				expectKinds(t, f, kind.ack && to != 63, reply)
			}
		}
	}
	for _, kind := range notKinds {
		for _, to := range []int{2, 63} {
			expectKinds(t, simpleFrame(kind, 1, to), false, 0)
		}
	}
	expectKinds(t, impl.MacFrame{}, false, 0)
	expectKinds(t, impl.MacFrame{Kind: 3, To: 63}, false, 4)
	expectKinds(t, impl.MacFrame{Kind: 7, To: 63}, false, 2)
}

// Only the kind and the receiver count, also in a frame that is invalid.
func TestKindsOfRepliesToOtherFrames(t *testing.T) {
	for i, kind := range frameKinds {
		f := simpleFrame(i+1, 1, 2)
		for _, changed := range spoiltFrames(f) {
			if changed.Kind == f.Kind && changed.To != 63 {
				expectKinds(t, changed, kind.ack, kind.reply)
			}
		}
		for flags := range 4 {
			expectKinds(t, frameOfFields([7]int{i + 1, 1, 2, 0, 0, flags, 0}, []byte("hi")), kind.ack, kind.reply)
		}
		for _, from := range notStations {
			expectKinds(t, simpleFrame(i+1, from, 2), kind.ack, kind.reply)
		}
	}
}

func TestReplyTo(t *testing.T) {
	for _, c := range []struct{ frame, want impl.MacFrame }{
		{impl.MacFrame{Kind: 1, From: 1, To: 2, Seq: 7, Fragment: 1, More: true, Duration: 5, Body: []byte("hi")}, impl.MacFrame{Kind: 2, From: 2, To: 1, Seq: 7, Fragment: 1, Duration: 4}},
		{impl.MacFrame{Kind: 1, From: 0, To: 15, Retry: true}, impl.MacFrame{Kind: 2, From: 15, To: 0}},
		{impl.MacFrame{Kind: 6, From: 15, To: 0, Seq: 4095, Fragment: 15, Duration: 1000, Body: []byte{0}}, impl.MacFrame{Kind: 2, From: 0, To: 15, Seq: 4095, Fragment: 15, Duration: 999}},
		{impl.MacFrame{Kind: 3, From: 3, To: 4, Seq: 1, Duration: 2}, impl.MacFrame{Kind: 4, From: 4, To: 3, Seq: 1, Duration: 1}},
		{impl.MacFrame{Kind: 3, From: 4, To: 3, Fragment: 2, Duration: 1, Retry: true}, impl.MacFrame{Kind: 4, From: 3, To: 4, Fragment: 2}},
		{impl.MacFrame{Kind: 7, From: 9, To: 8, Seq: 100, Fragment: 3, More: true, Retry: true}, impl.MacFrame{Kind: 2, From: 8, To: 9, Seq: 100, Fragment: 3}},
	} {
		expectReply(t, c.frame, c.want, true)
	}
	for _, kind := range []int{2, 4, 5} {
		expectNoReply(t, simpleFrame(kind, 1, 2))
	}
	for kind := 1; kind <= 7; kind++ {
		expectNoReply(t, simpleFrame(kind, 1, 63))
	}
	expectNoReply(t, impl.MacFrame{})
}

func TestReplyToLimitFrames(t *testing.T) {
	for _, f := range limitFrames() {
		kind := frameKinds[f.Kind-1].reply
		if kind == 0 || f.To == 63 {
			expectNoReply(t, f)
			continue
		}
		want := impl.MacFrame{Kind: kind, From: f.To, To: f.From, Seq: f.Seq, Fragment: f.Fragment, Duration: f.Duration - 1}
		if f.Duration == 0 {
			want.Duration = 0
		}
		expectReply(t, f, want, true)
		answer, _ := impl.ReplyTo(f)
		expectValidFrame(t, answer, true)
		// An answer is not answered.
		expectNoReply(t, answer)
	}
}

func TestReplyToOfAllDurations(t *testing.T) {
	for kind, reply := range map[int]int{1: 2, 3: 4, 6: 2, 7: 2} {
		for duration := 1; duration <= 1000; duration++ {
			f := impl.MacFrame{Kind: kind, From: 1, To: 2, Duration: duration}
			expectReply(t, f, impl.MacFrame{Kind: reply, From: 2, To: 1, Duration: duration - 1}, true)
		}
	}
}

func TestReplyToRejects(t *testing.T) {
	for kind := 1; kind <= 7; kind++ {
		for _, f := range spoiltFrames(simpleFrame(kind, 1, 2)) {
			expectNoReply(t, f)
		}
		for _, from := range notStations {
			expectNoReply(t, simpleFrame(kind, from, from))
			expectNoReply(t, simpleFrame(kind, from, 63))
		}
	}
}

func TestFormatFrame(t *testing.T) {
	for _, c := range []struct {
		frame impl.MacFrame
		want  string
	}{
		{impl.MacFrame{Kind: 1, From: 1, To: 2, Seq: 7, Fragment: 1, More: true, Duration: 5, Body: []byte("hi")}, "data 1>2#7.1+"},
		{impl.MacFrame{Kind: 2, From: 15, To: 0, Seq: 4095, Fragment: 15}, "ack 15>0#4095.15"},
		{impl.MacFrame{Kind: 3, To: 1, Retry: true}, "request 0>1#0.0!"},
		{impl.MacFrame{Kind: 4, From: 10, To: 11, Seq: 12, Fragment: 13, More: true, Retry: true}, "grant 10>11#12.13+!"},
		{impl.MacFrame{Kind: 5, From: 1, To: 63, Retry: true}, "beacon 1>*#0.0!"},
		{impl.MacFrame{Kind: 6, From: 3, To: 63, Seq: 129, More: true}, "management 3>*#129.0+"},
		{impl.MacFrame{Kind: 7, From: 14, To: 15}, "poll 14>15#0.0"},
		// frames that are invalid
		{impl.MacFrame{}, "? 0>0#0.0"},
		{impl.MacFrame{Kind: -1, From: 63, To: 63, More: true, Retry: true}, "? 63>*#0.0+!"},
		{impl.MacFrame{Kind: 8, From: 64, To: 62, Seq: 4096, Fragment: 16}, "? 64>62#4096.16"},
		{impl.MacFrame{Kind: 2, From: 63, To: 63}, "ack 63>*#0.0"},
		{impl.MacFrame{Kind: 3, From: -1, To: -2, Seq: -3, Fragment: -4, Duration: -5}, "request -1>-2#-3.-4"},
		{impl.MacFrame{Kind: 7, From: -63, To: -63, Seq: 1 << 40, Fragment: 1000}, "poll -63>-63#1099511627776.1000"},
		{impl.MacFrame{Kind: math.MinInt, From: math.MinInt, To: math.MinInt, Seq: math.MinInt, Fragment: math.MinInt, Retry: true},
			"? -9223372036854775808>-9223372036854775808#-9223372036854775808.-9223372036854775808!"},
		{impl.MacFrame{Kind: math.MaxInt, From: math.MaxInt, To: math.MaxInt, Seq: math.MaxInt, Fragment: math.MaxInt, More: true},
			"? 9223372036854775807>9223372036854775807#9223372036854775807.9223372036854775807+"},
	} {
		expectText(t, c.frame, c.want)
	}
}

// The numbers are different in all places, so that none can be taken for another.
func TestFormatFrameOfAllKinds(t *testing.T) {
	for _, kind := range slices.Concat([]int{1, 2, 3, 4, 5, 6, 7}, notKinds) {
		name := "?"
		if !slices.Contains(notKinds, kind) {
			name = frameKinds[kind-1].name
		}
		for _, v := range slices.Concat(integers(), notStations) {
			for flags := range 4 {
				signs := []string{"", "+", "!", "+!"}[flags]
				expectText(t, frameOfFields([7]int{kind, v, 20, 30, 40, flags, 50}, nil), fmt.Sprintf("%s %d>20#30.40%s", name, v, signs))
				expectText(t, frameOfFields([7]int{kind, 10, 20, v, 40, flags, 50}, nil), fmt.Sprintf("%s 10>20#%d.40%s", name, v, signs))
				expectText(t, frameOfFields([7]int{kind, 10, 20, 30, v, flags, 50}, nil), fmt.Sprintf("%s 10>20#30.%d%s", name, v, signs))
				expectText(t, frameOfFields([7]int{kind, 10, 20, 30, 40, flags, v}, []byte("body")), fmt.Sprintf("%s 10>20#30.40%s", name, signs))
				receiver := fmt.Sprint(v)
				if v == 63 {
					receiver = "*"
				}
				expectText(t, frameOfFields([7]int{kind, 10, v, 30, 40, flags, 50}, nil), fmt.Sprintf("%s 10>%s#30.40%s", name, receiver, signs))
			}
		}
	}
}

// differentFrames are frames no two of which are equal; most of them differ in a single field.
func differentFrames() []impl.MacFrame {
	list := []impl.MacFrame{}
	for flags := range 4 {
		for place := range 7 {
			for _, v := range []int{-1, 1, 2, 3, 63, 127, 255, 256, 1 << 32, math.MinInt, math.MaxInt} {
				n := [7]int{5: flags}
				n[place] = v
				if place != 5 {
					list = append(list, frameOfFields(n, nil))
				}
			}
		}
		for _, body := range []string{"", "\x00", "\x00\x00", "\x01", "a", "ab", "abc", "b", "aB", "\x00ab", string(make([]byte, 100)), string(make([]byte, 101))} {
			list = append(list, frameOfFields([7]int{5: flags}, []byte(body)))
		}
	}
	return list
}

func TestEqualFrames(t *testing.T) {
	list := differentFrames()
	for i, a := range list {
		for j, b := range list {
			if got := impl.EqualFrames(a, b); got != (i == j) {
				t.Errorf("EqualFrames(%v, %v) is %v", a, b, got)
			}
		}
		same := a
		same.Body = slices.Clone(a.Body)
		if !impl.EqualFrames(a, same) || !impl.EqualFrames(same, a) {
			t.Errorf("%v does not equal its copy", a)
		}
	}
}

func TestEqualFramesOfFields(t *testing.T) {
	f := impl.MacFrame{Kind: 1, From: 2, To: 3, Seq: 4, Fragment: 5, More: true, Retry: false, Duration: 6, Body: []byte("ab")}
	if !impl.EqualFrames(f, f) {
		t.Errorf("%v does not equal itself", f)
	}
	for i, change := range []func(*impl.MacFrame){
		func(f *impl.MacFrame) { f.Kind++ }, func(f *impl.MacFrame) { f.From++ }, func(f *impl.MacFrame) { f.To++ },
		func(f *impl.MacFrame) { f.Seq++ }, func(f *impl.MacFrame) { f.Fragment++ }, func(f *impl.MacFrame) { f.Duration++ },
		func(f *impl.MacFrame) { f.More = false }, func(f *impl.MacFrame) { f.Retry = true }, func(f *impl.MacFrame) { f.More, f.Retry = f.Retry, f.More },
		func(f *impl.MacFrame) { f.Body = []byte("a") }, func(f *impl.MacFrame) { f.Body = []byte("abc") }, func(f *impl.MacFrame) { f.Body = []byte("ac") },
		func(f *impl.MacFrame) { f.Body = nil }, func(f *impl.MacFrame) { f.Kind, f.From = f.From, f.Kind }, func(f *impl.MacFrame) { f.Seq, f.Fragment = f.Fragment, f.Seq },
	} {
		changed := f
		change(&changed)
		if impl.EqualFrames(f, changed) || impl.EqualFrames(changed, f) {
			t.Errorf("%v equals %v, change %d", f, changed, i)
		}
	}
	none, empty := simpleFrame(1, 1, 2), simpleFrame(1, 1, 2)
	empty.Body = []byte{}
	if !impl.EqualFrames(none, empty) || !impl.EqualFrames(empty, none) || !impl.EqualFrames(impl.MacFrame{}, impl.MacFrame{Body: []byte{}}) {
		t.Error("a frame without a body does not equal one with an empty body")
	}
}

func TestFunctionsOfFramesKeepTheirArguments(t *testing.T) {
	for _, f := range slices.Concat(limitFrames(), spoiltFrames(simpleFrame(1, 1, 2)), spoiltFrames(simpleFrame(3, 1, 2))) {
		body := slices.Clone(f.Body)
		f.Body = withSpare(body...)
		code := impl.EncodeFrame(f)
		spoil(append(code, 1))
		spoil(code)
		answer, _ := impl.ReplyTo(f)
		spoil(append(answer.Body, 1))
		spoil(answer.Body)
		impl.IsValidFrame(f)
		impl.NeedsAck(f)
		impl.ReplyKind(f)
		impl.FormatFrame(f)
		impl.EqualFrames(f, f)
		checkSpare(t, "a function of frames", f.Body, body...)
	}
}

func TestDecodeFrameKeepsItsArgument(t *testing.T) {
	for _, f := range limitFrames() {
		code := codeOfFrame(f)
		for _, data := range [][]byte{code, inverted(code, 9), code[:len(code)-1], checked([]byte{1, 1, 1, 0, 0, 0, 0}), checked([]byte{1, 1, 2, 0, 0, 4, 0})} {
			b := withSpare(data...)
			want, _ := decodedReference(data)
			one, _ := impl.DecodeFrame(b)
			two, _ := impl.DecodeFrame(b)
			spoil(append(one.Body, 1))
			spoil(one.Body)
			checkSpare(t, "DecodeFrame", b, data...)
			spoil(b)
			if !sameFrame(two, want) {
				t.Errorf("the result of DecodeFrame(%v) shares memory: %v", data, two)
			}
		}
	}
}

func TestResultsOfEncodeFrameShareNoMemory(t *testing.T) {
	for _, f := range append(limitFrames(), impl.MacFrame{}) {
		want := []byte{}
		if validReference(f) {
			want = codeOfFrame(f)
		}
		one, two := impl.EncodeFrame(f), impl.EncodeFrame(f)
		spoil(append(one, 1))
		spoil(one)
		if !slices.Equal(two, want) || !slices.Equal(impl.EncodeFrame(f), want) {
			t.Errorf("two results of EncodeFrame(%v) share memory: %v", f, two)
		}
	}
}
