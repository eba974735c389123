package tests

import (
	"math"
	"math/rand/v2"
	"slices"
	"strconv"
	"testing"

	"loop.example/g00511/impl"
)

// notBodyLengths are beyond MaxBody; the lowest bits of some are those of a length within it.
var notBodyLengths = []int{101, 102, 127, 128, 256, 261, 356, 65536}

func numberedFrame(seq int, body string) impl.NumberedFrame {
	return impl.NumberedFrame{Seq: seq, Body: []byte(body)}
}

// nameOf is the body of the frame with this number in most buffers.
func nameOf(seq int) string {
	return "n" + strconv.Itoa(seq)
}

func bufferOf(start int, pending ...impl.NumberedFrame) impl.ReorderBuffer {
	return impl.ReorderBuffer{Start: start, Pending: pending}
}

// bufferAt is a buffer with frames at these distances, in this order.
func bufferAt(start int, distances ...int) impl.ReorderBuffer {
	r := bufferOf(start)
	for _, distance := range distances {
		seq := onCircle(start + distance)
		r.Pending = append(r.Pending, numberedFrame(seq, nameOf(seq)))
	}
	return r
}

// bufferOfBits is a buffer with frames at the distances that are bits of a number.
func bufferOfBits(start int, bits int) impl.ReorderBuffer {
	return bufferAt(start, distancesOf(bits)...)
}

func distancesOf(bits int) []int {
	return slices.DeleteFunc(upTo(64), func(i int) bool { return bits>>i&1 == 0 })
}

// fullBuffer has frames at all distances from 1 to 15.
func fullBuffer(start int) impl.ReorderBuffer {
	return bufferOfBits(start, 65534)
}

// namesFrom are the bodies of so many frames from the number seq on.
func namesFrom(seq int, count int) []string {
	return namesOf(seqsFrom(seq, count)...)
}

func namesOf(seqs ...int) []string {
	names := []string{}
	for _, seq := range seqs {
		names = append(names, nameOf(seq))
	}
	return names
}

func textsOf(bodies [][]byte) []string {
	texts := []string{}
	for _, body := range bodies {
		texts = append(texts, string(body))
	}
	return texts
}

func alikeNumbered(a impl.NumberedFrame, b impl.NumberedFrame) bool {
	return a.Seq == b.Seq && slices.Equal(a.Body, b.Body)
}

func alikeBuffers(a impl.ReorderBuffer, b impl.ReorderBuffer) bool {
	return a.Start == b.Start && slices.EqualFunc(a.Pending, b.Pending, alikeNumbered)
}

// copiedBuffer shares no memory with r.
func copiedBuffer(r impl.ReorderBuffer) impl.ReorderBuffer {
	r.Pending = slices.Clone(r.Pending)
	for i := range r.Pending {
		r.Pending[i].Body = slices.Clone(r.Pending[i].Body)
	}
	return r
}

// withFrame is the buffer with another pending frame at an index.
func withFrame(r impl.ReorderBuffer, i int, f impl.NumberedFrame) impl.ReorderBuffer {
	r = copiedBuffer(r)
	r.Pending[i] = f
	return r
}

// withInserted is the buffer with one more pending frame, which gets this index.
func withInserted(r impl.ReorderBuffer, i int, f impl.NumberedFrame) impl.ReorderBuffer {
	r = copiedBuffer(r)
	r.Pending = slices.Insert(r.Pending, i, f)
	return r
}

func withStart(r impl.ReorderBuffer, start int) impl.ReorderBuffer {
	r.Start = start
	return r
}

// validBufferReference looks for each pending frame in the rest of the window behind the one before it.
func validBufferReference(r impl.ReorderBuffer) bool {
	if r.Start != onCircle(r.Start) {
		return false
	}
	rest := seqsFrom(r.Start, 16)[1:]
	for _, f := range r.Pending {
		place := slices.Index(rest, f.Seq)
		if place < 0 || len(f.Body) > 100 {
			return false
		}
		rest = rest[place+1:]
	}
	return true
}

// settledReference delivers, of frames that are counted from start, those before low and those from there to the first gap.
func settledReference(start int, frames map[int][]byte, low int) (impl.ReorderBuffer, []string) {
	delivered := []string{}
	for count := range min(low, 16) {
		if body, ok := frames[count]; ok {
			delivered = append(delivered, string(body))
		}
	}
	for body, ok := frames[low]; ok; body, ok = frames[low] {
		delivered = append(delivered, string(body))
		low++
	}
	left := bufferOf(onCircle(start + low))
	for count := low; count < low+16; count++ {
		if body, ok := frames[count]; ok {
			left.Pending = append(left.Pending, impl.NumberedFrame{Seq: onCircle(start + count), Body: body})
		}
	}
	return left, delivered
}

// countedFrames has the bodies of the pending frames by their distance.
func countedFrames(r impl.ReorderBuffer) map[int][]byte {
	frames := map[int][]byte{}
	for _, f := range r.Pending {
		frames[onCircle(f.Seq-r.Start)] = f.Body
	}
	return frames
}

// isFarReference reports whether seq is no number, or an old one.
func isFarReference(r impl.ReorderBuffer, seq int) bool {
	return seq != onCircle(seq) || onCircle(seq-r.Start) > 2047
}

func arrivedReference(r impl.ReorderBuffer, seq int, body []byte) (impl.ReorderBuffer, []string) {
	if !validBufferReference(r) || isFarReference(r, seq) || len(body) > 100 {
		return r, nil
	}
	frames, count := countedFrames(r), onCircle(seq-r.Start)
	if _, ok := frames[count]; ok {
		return r, nil
	}
	frames[count] = body
	return settledReference(r.Start, frames, max(count-15, 0))
}

func movedReference(r impl.ReorderBuffer, seq int) (impl.ReorderBuffer, []string) {
	if !validBufferReference(r) || isFarReference(r, seq) {
		return r, nil
	}
	return settledReference(r.Start, countedFrames(r), onCircle(seq-r.Start))
}

func bitmapReference(r impl.ReorderBuffer) impl.BlockAck {
	if !validBufferReference(r) {
		return impl.BlockAck{}
	}
	bits := 0
	for count := range countedFrames(r) {
		bits += int(math.Pow(2, float64(count)))
	}
	return blockAck(r.Start, bits)
}

func missingReference(r impl.ReorderBuffer) []int {
	missing := []int{}
	if !validBufferReference(r) {
		return missing
	}
	next := r.Start
	for _, f := range r.Pending {
		for ; next != f.Seq; next = onCircle(next + 1) {
			missing = append(missing, next)
		}
		next = onCircle(f.Seq + 1)
	}
	return missing
}

// someSets are sets of the distances from 1 to 15 as bits of numbers.
func someSets() []int {
	list := someAcked(16)
	for i := 2; i < 16; i++ {
		list = append(list, 1<<i-2, 65536-1<<i, 3<<(i-1), 1<<i|2, 1<<15|1<<(i-1))
	}
	return append(list, 0x9248, 0x0f0e, 0x8002)
}

// someBuffers visits valid buffers, many of them around the end of the circle.
func someBuffers(starts []int, visit func(r impl.ReorderBuffer)) {
	for _, start := range starts {
		for _, bits := range someSets() {
			visit(bufferOfBits(start, bits))
		}
	}
}

// spoiltBuffers are copies of the valid buffer that are invalid in one way each.
func spoiltBuffers(r impl.ReorderBuffer) []impl.ReorderBuffer {
	list := []impl.ReorderBuffer{}
	for _, start := range notSeqs {
		list = append(list, withStart(r, start))
	}
	for i, f := range r.Pending {
		for _, seq := range slices.Concat(notSeqs, []int{f.Seq + 4096, f.Seq - 4096, f.Seq + 1<<32, f.Seq + math.MinInt, r.Start}) {
			list = append(list, withFrame(r, i, impl.NumberedFrame{Seq: seq, Body: f.Body}))
		}
		for _, distance := range []int{16, 17, 18, 31, 32, 257, 2046, 2047, 2048, 2049, 4094, 4095} {
			list = append(list, withFrame(r, i, impl.NumberedFrame{Seq: onCircle(r.Start + distance), Body: f.Body}))
		}
		for _, length := range notBodyLengths {
			list = append(list, withFrame(r, i, impl.NumberedFrame{Seq: f.Seq, Body: bodyOf(length)}))
		}
		list = append(list, withInserted(r, i, f), withInserted(r, i, numberedFrame(f.Seq, "other")), withStart(r, f.Seq), withStart(r, onCircle(f.Seq+1)))
		list = append(list, withStart(r, onCircle(f.Seq+2048)), withStart(r, onCircle(r.Pending[len(r.Pending)-1].Seq-16)))
		if i > 0 {
			list = append(list, withInserted(r, 0, f), withInserted(r, len(r.Pending), r.Pending[i-1]), withFrame(withFrame(r, i, r.Pending[i-1]), i-1, f))
		}
	}
	end := len(r.Pending)
	for _, seq := range []int{r.Start, onCircle(r.Start + 16), onCircle(r.Start - 1), onCircle(r.Start + 2048), -1, 4096} {
		list = append(list, withInserted(r, end, numberedFrame(seq, nameOf(seq))), withInserted(r, 0, numberedFrame(seq, "")))
	}
	return list
}

// someInvalidBuffers are of each kind, with no, some and all frames pending.
func someInvalidBuffers() []impl.ReorderBuffer {
	list := []impl.ReorderBuffer{}
	for _, r := range []impl.ReorderBuffer{bufferAt(0), bufferAt(7), bufferAt(7, 1), bufferAt(7, 2, 3, 6), bufferAt(4094, 1, 2, 5), bufferAt(4090, 15), fullBuffer(10), fullBuffer(4088)} {
		list = append(list, spoiltBuffers(r)...)
	}
	return list
}

func expectNewBuffer(t *testing.T, seq int, want int) {
	t.Helper()
	if got := impl.NewReorderBuffer(seq); got.Start != want || len(got.Pending) != 0 {
		t.Errorf("NewReorderBuffer(%d) is %v, not an empty one of %d", seq, got, want)
	}
}

func expectValidBuffer(t *testing.T, r impl.ReorderBuffer, want bool) {
	t.Helper()
	if got := impl.IsValidReorderBuffer(r); got != want {
		t.Errorf("IsValidReorderBuffer(%v) is %v", r, got)
	}
}

// expectSettled checks an answer, and that the buffer in it is valid if the one given was.
func expectSettled(t *testing.T, r impl.ReorderBuffer, got impl.ReorderBuffer, bodies [][]byte, want impl.ReorderBuffer, delivered []string) {
	t.Helper()
	if !alikeBuffers(got, want) || !slices.Equal(textsOf(bodies), delivered) {
		t.Fatalf("%v becomes %v and delivers %q, not %v and %q", r, got, bodies, want, delivered)
	}
	if impl.IsValidReorderBuffer(r) && !impl.IsValidReorderBuffer(got) {
		t.Fatalf("%v becomes %v, which is invalid", r, got)
	}
}

func expectArrival(t *testing.T, r impl.ReorderBuffer, seq int, body string, want impl.ReorderBuffer, delivered ...string) {
	t.Helper()
	got, bodies := impl.ReceiveNumbered(r, seq, []byte(body))
	expectSettled(t, r, got, bodies, want, delivered)
}

func expectArrivalLikeReference(t *testing.T, r impl.ReorderBuffer, seq int, body []byte) {
	t.Helper()
	want, delivered := arrivedReference(r, seq, body)
	got, bodies := impl.ReceiveNumbered(r, seq, body)
	expectSettled(t, r, got, bodies, want, delivered)
}

// expectIgnoredArrival expects a copy of the buffer and nothing.
func expectIgnoredArrival(t *testing.T, r impl.ReorderBuffer, seq int, body string) {
	t.Helper()
	expectArrival(t, r, seq, body, r)
}

func expectMoved(t *testing.T, r impl.ReorderBuffer, seq int, want impl.ReorderBuffer, delivered ...string) {
	t.Helper()
	got, bodies := impl.MoveStart(r, seq)
	expectSettled(t, r, got, bodies, want, delivered)
}

func expectMovedLikeReference(t *testing.T, r impl.ReorderBuffer, seq int) {
	t.Helper()
	want, delivered := movedReference(r, seq)
	expectMoved(t, r, seq, want, delivered...)
}

func expectBlockAckOf(t *testing.T, r impl.ReorderBuffer, want impl.BlockAck) {
	t.Helper()
	if got := impl.BlockAckOf(r); got != want {
		t.Errorf("BlockAckOf(%v) is %v, not %v", r, got, want)
	}
}

func expectMissing(t *testing.T, r impl.ReorderBuffer, want ...int) {
	t.Helper()
	if got := impl.MissingNumbers(r); !slices.Equal(got, want) || got == nil {
		t.Errorf("MissingNumbers(%v) is %#v, not %v", r, got, want)
	}
}

func expectEqualBuffers(t *testing.T, a impl.ReorderBuffer, b impl.ReorderBuffer, want bool) {
	t.Helper()
	if impl.EqualReorderBuffers(a, b) != want || impl.EqualReorderBuffers(b, a) != want {
		t.Errorf("EqualReorderBuffers(%v, %v) or its reverse is not %v", a, b, want)
	}
}

func TestNewReorderBuffer(t *testing.T) {
	for _, c := range []struct{ seq, want int }{
		{-1, 0}, {0, 0}, {1, 1}, {4094, 4094}, {4095, 4095}, {4096, 0}, {math.MinInt, 0}, {math.MaxInt, 0},
	} {
		expectNewBuffer(t, c.seq, c.want)
	}
	for seq := range 4096 {
		expectNewBuffer(t, seq, seq)
		expectValidBuffer(t, impl.NewReorderBuffer(seq), true)
	}
	for _, seq := range notSeqs {
		expectNewBuffer(t, seq, 0)
	}
}

func TestIsValidReorderBufferOfStarts(t *testing.T) {
	for start := range 4096 {
		expectValidBuffer(t, bufferOf(start), true)
		expectValidBuffer(t, impl.ReorderBuffer{Start: start, Pending: []impl.NumberedFrame{}}, true)
		expectValidBuffer(t, bufferAt(start, 1), true)
		expectValidBuffer(t, bufferAt(start, 15), true)
		expectValidBuffer(t, bufferAt(start, 16), false)
		expectValidBuffer(t, bufferAt(start, 0), false)
		expectValidBuffer(t, bufferAt(start, 4095), false)
	}
	for _, start := range slices.Concat(notSeqs, []int{4097 - 8192, 8191, 8192}) {
		expectValidBuffer(t, bufferOf(start), false)
		for _, distance := range []int{0, 1, 2, 15, 16, 4095} {
			// On the circle, or counted beyond it.
			expectValidBuffer(t, bufferAt(start, distance), false)
			expectValidBuffer(t, bufferOf(start, numberedFrame(start+distance, "a")), false)
		}
		expectValidBuffer(t, withStart(fullBuffer(onCircle(start)), start), false)
	}
	expectValidBuffer(t, impl.ReorderBuffer{}, true)
}

func TestIsValidReorderBufferOfDistances(t *testing.T) {
	for _, start := range startsAround() {
		for distance := range 4096 {
			valid := distance > 0 && distance < 16
			expectValidBuffer(t, bufferAt(start, distance), valid)
		}
		for a := range 19 {
			for b := range 19 {
				valid := 0 < a && a < b && b < 16
				expectValidBuffer(t, bufferAt(start, a, b), valid)
				expectValidBuffer(t, bufferAt(start, 1, a, b), valid && a > 1)
				expectValidBuffer(t, bufferAt(start, a, b, 15), valid && b < 15)
				expectValidBuffer(t, bufferAt(start, a, 8, b), valid && a < 8 && b > 8)
			}
		}
		expectValidBuffer(t, fullBuffer(start), true)
		expectValidBuffer(t, bufferAt(start, upTo(16)...), false)
		expectValidBuffer(t, bufferAt(start, upTo(17)[1:]...), false)
		for _, far := range []int{16, 17, 2046, 2047, 2048, 2049, 4094, 4095} {
			expectValidBuffer(t, bufferAt(start, 1, 2, far), false)
			expectValidBuffer(t, bufferAt(start, far, 1, 2), false)
			expectValidBuffer(t, bufferAt(start, 1, far, 15), false)
		}
	}
}

func TestIsValidReorderBufferOfSequences(t *testing.T) {
	for _, c := range []struct {
		distances []int
		want      bool
	}{
		{[]int{1, 2, 3}, true}, {[]int{2, 4, 9, 15}, true}, {[]int{14, 15}, true},
		// Equal and descending ones.
		{[]int{1, 1}, false}, {[]int{15, 15}, false}, {[]int{2, 1}, false}, {[]int{15, 1}, false}, {[]int{1, 3, 2}, false}, {[]int{3, 1, 2}, false}, {[]int{2, 3, 1}, false}, {[]int{1, 2, 2}, false}, {[]int{1, 1, 2}, false}, {[]int{1, 2, 1}, false}, {[]int{3, 2, 1}, false}, {[]int{15, 14, 13}, false},
		{slices.Repeat([]int{5}, 40), false}, {slices.Repeat(upTo(16)[1:], 2), false},
	} {
		for _, start := range []int{0, 7, 2040, 4080, 4090, 4094, 4095} {
			expectValidBuffer(t, bufferAt(start, c.distances...), c.want)
		}
	}
	// The numbers fall where the circle ends, but the distances do not.
	expectValidBuffer(t, bufferOf(4094, numberedFrame(4095, ""), numberedFrame(0, ""), numberedFrame(13, "")), true)
	expectValidBuffer(t, bufferOf(4094, numberedFrame(0, ""), numberedFrame(4095, "")), false)
	expectValidBuffer(t, bufferOf(4094, numberedFrame(14, "")), false)
	expectValidBuffer(t, bufferOf(5, numberedFrame(4, "")), false)
	expectValidBuffer(t, bufferOf(0, numberedFrame(4095, "")), false)
}

func TestIsValidReorderBufferOfNumbers(t *testing.T) {
	for _, start := range []int{0, 1, 7, 4090, 4094, 4095} {
		for _, seq := range notSeqs {
			expectValidBuffer(t, bufferOf(start, numberedFrame(seq, "")), false)
			expectValidBuffer(t, withInserted(bufferAt(start, 2, 3), 0, numberedFrame(seq, "")), false)
			expectValidBuffer(t, withInserted(bufferAt(start, 2, 3), 1, numberedFrame(seq, "")), false)
			expectValidBuffer(t, withInserted(bufferAt(start, 2, 3), 2, numberedFrame(seq, "")), false)
		}
		// Numbers that have the right remainder, but are not on the circle.
		for _, circle := range []int{4096, -4096, 8192, 1 << 32, math.MinInt} {
			for distance := range 17 {
				expectValidBuffer(t, bufferOf(start, numberedFrame(onCircle(start+distance)+circle, "")), false)
			}
		}
	}
}

func TestIsValidReorderBufferOfBodies(t *testing.T) {
	for length := range 400 {
		f := impl.NumberedFrame{Seq: 9, Body: bodyOf(length)}
		expectValidBuffer(t, bufferOf(7, f), length <= 100)
		for i := range 5 {
			r := bufferAt(4093, 1, 2, 5, 9, 15)
			r.Pending[i].Body = bodyOf(length)
			expectValidBuffer(t, r, length <= 100)
		}
	}
	for _, length := range notBodyLengths {
		expectValidBuffer(t, bufferOf(7, impl.NumberedFrame{Seq: 9, Body: bodyOf(length)}), false)
	}
	for _, body := range [][]byte{nil, {}, make([]byte, 0, 200), bodyOf(200)[:100], bodyOf(200)[150:150]} {
		expectValidBuffer(t, bufferOf(7, impl.NumberedFrame{Seq: 8, Body: body}, impl.NumberedFrame{Seq: 9, Body: body}), true)
	}
	whole := fullBuffer(4088)
	for i := range whole.Pending {
		whole.Pending[i].Body = bodyOf(100)
	}
	expectValidBuffer(t, whole, true)
}

func TestIsValidReorderBufferOfAllSets(t *testing.T) {
	for bits := range 1 << 17 {
		expectValidBuffer(t, bufferOfBits(4090, bits), bits&1 == 0 && bits < 1<<16)
	}
	for _, r := range someInvalidBuffers() {
		expectValidBuffer(t, r, false)
	}
	someBuffers(startsAround(), func(r impl.ReorderBuffer) {
		expectValidBuffer(t, r, true)
	})
}

func TestReceiveNumberedAtDistances(t *testing.T) {
	for start := range 4096 {
		r := bufferOf(start)
		at := func(distance int) int { return onCircle(start + distance) }
		expectArrival(t, r, start, "a", bufferOf(at(1)), "a")
		for distance := 1; distance < 16; distance++ {
			expectArrival(t, r, at(distance), "a", bufferOf(start, numberedFrame(at(distance), "a")))
		}
		// Beyond the window, the frame becomes the last one of the window.
		for _, distance := range []int{16, 17, 18, 19, 30, 31, 32, 255, 256, 2046, 2047} {
			expectArrival(t, r, at(distance), "a", bufferOf(at(distance-15), numberedFrame(at(distance), "a")))
		}
		for _, distance := range []int{2048, 2049, 2050, 4079, 4080, 4094, 4095} {
			expectIgnoredArrival(t, r, at(distance), "a")
		}
	}
}

func TestReceiveNumberedWithinTheWindow(t *testing.T) {
	for _, c := range []struct {
		pending []int
		arrives int
		left    []int
		count   int
	}{
		// The next frame, alone and with pending ones behind it; left are distances from the new start.
		{nil, 0, nil, 1}, {[]int{1}, 0, nil, 2}, {[]int{1, 2, 3}, 0, nil, 4}, {[]int{2}, 0, []int{1}, 1}, {[]int{1, 3}, 0, []int{1}, 2}, {[]int{2, 3}, 0, []int{1, 2}, 1}, {[]int{1, 2, 5, 6, 15}, 0, []int{2, 3, 12}, 3}, {[]int{15}, 0, []int{14}, 1}, {upTo(16)[1:], 0, nil, 16}, {upTo(16)[2:], 0, upTo(15)[1:], 1}, {upTo(15)[1:], 0, nil, 15},
		// In front of, between and behind the pending ones.
		{nil, 1, []int{1}, 0}, {nil, 15, []int{15}, 0}, {[]int{2}, 1, []int{1, 2}, 0}, {[]int{3, 5}, 1, []int{1, 3, 5}, 0}, {[]int{3, 5}, 4, []int{3, 4, 5}, 0}, {[]int{3, 9}, 5, []int{3, 5, 9}, 0}, {[]int{3, 5}, 6, []int{3, 5, 6}, 0}, {[]int{3, 5}, 15, []int{3, 5, 15}, 0}, {[]int{1, 2, 3}, 4, []int{1, 2, 3, 4}, 0}, {[]int{1, 15}, 14, []int{1, 14, 15}, 0}, {upTo(16)[2:], 1, upTo(16)[1:], 0},
	} {
		for _, start := range startsAround() {
			seq := onCircle(start + c.arrives)
			expectArrival(t, bufferAt(start, c.pending...), seq, nameOf(seq), bufferAt(onCircle(start+c.count), c.left...), namesFrom(start, c.count)...)
		}
	}
}

func TestReceiveNumberedOfPendingFrames(t *testing.T) {
	someBuffers(startsAround(), func(r impl.ReorderBuffer) {
		for _, f := range r.Pending {
			for _, body := range []string{string(f.Body), "other", "", string(bodyOf(100)), string(bodyOf(101))} {
				expectIgnoredArrival(t, r, f.Seq, body)
			}
		}
	})
	r, _ := impl.ReceiveNumbered(bufferAt(7), 9, []byte("first"))
	r, _ = impl.ReceiveNumbered(r, 9, []byte("second"))
	r, _ = impl.ReceiveNumbered(r, 8, nil)
	r, _ = impl.ReceiveNumbered(r, 8, []byte("third"))
	expectArrival(t, r, 7, "last", bufferAt(10), "last", "", "first")
}

func TestReceiveNumberedBeyondTheWindow(t *testing.T) {
	for _, c := range []struct {
		pending []int
		arrives int
		// start and the places of the frames that are left are counted from the former start.
		start     int
		left      []int
		delivered []int
	}{
		// Start moves past no, some and all pending frames.
		{[]int{3, 5, 9}, 16, 1, []int{3, 5, 9, 16}, nil},
		{[]int{3, 5, 9}, 17, 2, []int{3, 5, 9, 17}, nil},
		{[]int{3, 5, 9}, 18, 4, []int{5, 9, 18}, []int{3}},
		{[]int{3, 5, 9}, 19, 4, []int{5, 9, 19}, []int{3}},
		{[]int{3, 5, 9}, 20, 6, []int{9, 20}, []int{3, 5}},
		{[]int{3, 5, 9}, 21, 6, []int{9, 21}, []int{3, 5}},
		{[]int{3, 5, 9}, 23, 8, []int{9, 23}, []int{3, 5}},
		{[]int{3, 5, 9}, 24, 10, []int{24}, []int{3, 5, 9}},
		{[]int{3, 5, 9}, 25, 10, []int{25}, []int{3, 5, 9}},
		{[]int{3, 5, 9}, 26, 11, []int{26}, []int{3, 5, 9}},
		{[]int{3, 5, 9}, 2047, 2032, []int{2047}, []int{3, 5, 9}},
		// The frame with the number of the new start is pending, and some behind it.
		{[]int{1}, 16, 2, []int{16}, []int{1}},
		{[]int{1, 2, 4}, 16, 3, []int{4, 16}, []int{1, 2}},
		{[]int{1, 2, 4}, 17, 3, []int{4, 17}, []int{1, 2}},
		{[]int{1, 2, 4}, 18, 3, []int{4, 18}, []int{1, 2}},
		{[]int{1, 2, 4}, 19, 5, []int{19}, []int{1, 2, 4}},
		{[]int{15}, 16, 1, []int{15, 16}, nil},
		{[]int{15}, 29, 14, []int{15, 29}, nil},
		{[]int{15}, 30, 16, []int{30}, []int{15}},
		{[]int{15}, 31, 16, []int{31}, []int{15}},
		{[]int{14, 15}, 29, 16, []int{29}, []int{14, 15}},
		{[]int{12, 15}, 27, 13, []int{15, 27}, []int{12}},
		{[]int{12, 15}, 28, 13, []int{15, 28}, []int{12}},
		// All frames up to the arriving one are pending, so that it is delivered at once.
		{upTo(16)[1:], 16, 17, nil, upTo(17)[1:]},
		{upTo(16)[1:], 17, 16, []int{17}, upTo(16)[1:]},
		{upTo(16)[1:], 18, 16, []int{18}, upTo(16)[1:]},
		{upTo(16)[1:], 30, 16, []int{30}, upTo(16)[1:]},
		{upTo(16)[1:], 31, 16, []int{31}, upTo(16)[1:]},
		{upTo(16)[1:], 32, 17, []int{32}, upTo(16)[1:]},
		{upTo(16)[1:], 2047, 2032, []int{2047}, upTo(16)[1:]},
		// One is missing.
		{upTo(15)[1:], 16, 15, []int{16}, upTo(15)[1:]},
		{upTo(16)[2:], 16, 1, append(upTo(17)[2:15], 15, 16), nil},
		{upTo(16)[2:], 17, 16, []int{17}, upTo(16)[2:]},
		{nil, 16, 1, []int{16}, nil}, {nil, 2047, 2032, []int{2047}, nil},
	} {
		for _, start := range startsAround() {
			want, delivered := bufferOf(onCircle(start+c.start)), []string{}
			for _, place := range c.left {
				want.Pending = append(want.Pending, numberedFrame(onCircle(start+place), nameOf(onCircle(start+place))))
			}
			for _, place := range c.delivered {
				delivered = append(delivered, nameOf(onCircle(start+place)))
			}
			seq := onCircle(start + c.arrives)
			expectArrival(t, bufferAt(start, c.pending...), seq, nameOf(seq), want, delivered...)
		}
	}
}

func TestReceiveNumberedOfOldFrames(t *testing.T) {
	someBuffers([]int{0, 7, 2047, 2048, 4090, 4095}, func(r impl.ReorderBuffer) {
		for _, distance := range []int{2048, 2049, 2050, 2063, 2064, 3000, 4079, 4080, 4081, 4094, 4095} {
			expectIgnoredArrival(t, r, onCircle(r.Start+distance), "old")
		}
		for _, seq := range slices.Concat(notSeqs, []int{r.Start + 4096, r.Start - 4096, r.Start + 1<<32}) {
			expectIgnoredArrival(t, r, seq, "a")
			expectIgnoredArrival(t, r, seq, "")
		}
	})
}

func TestReceiveNumberedOfBodies(t *testing.T) {
	for _, r := range []impl.ReorderBuffer{bufferAt(7), bufferAt(7, 2, 3), bufferAt(4093, 1, 4), fullBuffer(4090)} {
		for _, distance := range []int{0, 1, 2, 5, 15, 16, 17, 20, 2047, 2048} {
			seq := onCircle(r.Start + distance)
			for _, length := range []int{0, 1, 2, 15, 16, 31, 32, 33, 64, 99, 100} {
				expectArrivalLikeReference(t, r, seq, bodyOf(length))
			}
			for _, length := range slices.Concat(notBodyLengths, []int{103, 200, 512, 612}) {
				expectIgnoredArrival(t, r, seq, string(bodyOf(length)))
			}
			for _, body := range [][]byte{nil, {}, make([]byte, 0, 200), bodyOf(300)[:100], bodyOf(300)[200:], allBytes()[156:], slices.Repeat([]byte{0}, 100), {0}, {255, 0, 128}} {
				expectArrivalLikeReference(t, r, seq, body)
			}
		}
	}
	// A body is kept as it is until it is delivered, also one that is no text.
	for length := range 101 {
		body := slices.Clone(allBytes()[156-length : 256-length][:length])
		r, _ := impl.ReceiveNumbered(bufferAt(4094), 0, body)
		r, _ = impl.ReceiveNumbered(r, 4095, nil)
		expectArrival(t, r, 4094, "a", bufferAt(1), "a", "", string(body))
	}
	// Empty frames are pending, too.
	r, bodies := impl.ReceiveNumbered(bufferAt(7), 9, nil)
	expectSettled(t, bufferAt(7), r, bodies, bufferOf(7, numberedFrame(9, "")), nil)
	expectMissing(t, r, 7, 8)
	expectBlockAckOf(t, r, blockAck(7, 4))
}

func TestReceiveNumberedOfInvalidBuffers(t *testing.T) {
	for _, r := range someInvalidBuffers() {
		for _, distance := range []int{0, 1, 4, 15, 16, 17, 2047, 2048, 4095} {
			expectIgnoredArrival(t, r, onCircle(r.Start+distance), "a")
		}
		for _, seq := range []int{r.Start, -1, 4096, 8, math.MinInt, math.MaxInt} {
			expectIgnoredArrival(t, r, seq, "a")
			expectIgnoredArrival(t, r, seq, string(bodyOf(101)))
		}
	}
}

func TestReceiveNumberedOfSomeBuffers(t *testing.T) {
	someBuffers(startsAround(), func(r impl.ReorderBuffer) {
		for distance := range 34 {
			expectArrivalLikeReference(t, r, onCircle(r.Start+distance), []byte("new"))
		}
	})
	for _, r := range []impl.ReorderBuffer{bufferAt(7, 1, 2, 5), bufferAt(4090, 2, 5, 6, 7, 15), fullBuffer(4085)} {
		for seq := -20; seq < 4120; seq++ {
			expectArrivalLikeReference(t, r, seq, []byte("new"))
		}
	}
}

func TestReceiveNumberedOfAllSets(t *testing.T) {
	distances := []int{0, 1, 8, 15, 16, 17, 23, 24, 30, 31, 2047}
	for bits := 0; bits < 1<<16; bits += 2 {
		r := bufferOfBits(4088, bits)
		for i := range 3 {
			expectArrivalLikeReference(t, r, onCircle(r.Start+distances[(bits/2+i*4)%len(distances)]), []byte("new"))
		}
	}
}

func TestMoveStart(t *testing.T) {
	for _, c := range []struct {
		pending   []int
		to        int
		start     int
		left      []int
		delivered []int
	}{
		{nil, 0, 0, nil, nil}, {nil, 1, 1, nil, nil}, {nil, 16, 16, nil, nil}, {nil, 2046, 2046, nil, nil}, {nil, 2047, 2047, nil, nil}, {nil, 2048, 0, nil, nil}, {nil, 4095, 0, nil, nil},
		{[]int{1, 2, 4}, 0, 0, []int{1, 2, 4}, nil},
		{[]int{1, 2, 4}, 1, 3, []int{4}, []int{1, 2}},
		{[]int{1, 2, 4}, 2, 3, []int{4}, []int{1, 2}},
		{[]int{1, 2, 4}, 3, 3, []int{4}, []int{1, 2}},
		{[]int{1, 2, 4}, 4, 5, nil, []int{1, 2, 4}},
		{[]int{1, 2, 4}, 5, 5, nil, []int{1, 2, 4}},
		{[]int{1, 2, 4}, 6, 6, nil, []int{1, 2, 4}},
		{[]int{1, 2, 4}, 15, 15, nil, []int{1, 2, 4}},
		{[]int{1, 2, 4}, 16, 16, nil, []int{1, 2, 4}},
		{[]int{1, 2, 4}, 17, 17, nil, []int{1, 2, 4}},
		{[]int{1, 2, 4}, 2046, 2046, nil, []int{1, 2, 4}},
		{[]int{1, 2, 4}, 2047, 2047, nil, []int{1, 2, 4}},
		{[]int{1, 2, 4}, 2048, 0, []int{1, 2, 4}, nil},
		{[]int{1, 2, 4}, 2049, 0, []int{1, 2, 4}, nil},
		{[]int{1, 2, 4}, 4095, 0, []int{1, 2, 4}, nil},
		{[]int{3, 5, 6, 9}, 1, 1, []int{3, 5, 6, 9}, nil},
		{[]int{3, 5, 6, 9}, 2, 2, []int{3, 5, 6, 9}, nil},
		{[]int{3, 5, 6, 9}, 3, 4, []int{5, 6, 9}, []int{3}},
		{[]int{3, 5, 6, 9}, 4, 4, []int{5, 6, 9}, []int{3}},
		{[]int{3, 5, 6, 9}, 5, 7, []int{9}, []int{3, 5, 6}},
		{[]int{3, 5, 6, 9}, 6, 7, []int{9}, []int{3, 5, 6}},
		{[]int{3, 5, 6, 9}, 7, 7, []int{9}, []int{3, 5, 6}},
		{[]int{3, 5, 6, 9}, 9, 10, nil, []int{3, 5, 6, 9}},
		{[]int{3, 5, 6, 9}, 10, 10, nil, []int{3, 5, 6, 9}},
		{[]int{15}, 14, 14, []int{15}, nil}, {[]int{15}, 15, 16, nil, []int{15}}, {[]int{15}, 16, 16, nil, []int{15}}, {[]int{15}, 17, 17, nil, []int{15}},
		{upTo(16)[1:], 0, 0, upTo(16)[1:], nil}, {upTo(16)[1:], 1, 16, nil, upTo(16)[1:]}, {upTo(16)[1:], 9, 16, nil, upTo(16)[1:]}, {upTo(16)[1:], 16, 16, nil, upTo(16)[1:]}, {upTo(16)[1:], 20, 20, nil, upTo(16)[1:]},
	} {
		for _, start := range startsAround() {
			want, delivered := bufferOf(onCircle(start+c.start)), []string{}
			for _, place := range c.left {
				want.Pending = append(want.Pending, numberedFrame(onCircle(start+place), nameOf(onCircle(start+place))))
			}
			for _, place := range c.delivered {
				delivered = append(delivered, nameOf(onCircle(start+place)))
			}
			expectMoved(t, bufferAt(start, c.pending...), onCircle(start+c.to), want, delivered...)
		}
	}
}

func TestMoveStartOfSomeBuffers(t *testing.T) {
	someBuffers(startsAround(), func(r impl.ReorderBuffer) {
		for distance := range 20 {
			expectMovedLikeReference(t, r, onCircle(r.Start+distance))
		}
		for _, distance := range []int{2046, 2047} {
			expectMovedLikeReference(t, r, onCircle(r.Start+distance))
		}
		for _, seq := range slices.Concat(notSeqs, seqsFrom(r.Start+2048, 3), seqsFrom(r.Start-20, 20), []int{r.Start, r.Start + 4096, r.Start - 4096, onCircle(r.Start+1) + 1<<32}) {
			expectMoved(t, r, seq, r)
		}
	})
	for _, r := range []impl.ReorderBuffer{bufferAt(7, 1, 2, 5), bufferAt(4090, 2, 5, 6, 7, 15), fullBuffer(4085)} {
		for seq := -20; seq < 4120; seq++ {
			expectMovedLikeReference(t, r, seq)
		}
	}
}

func TestMoveStartOfAllSets(t *testing.T) {
	for bits := 0; bits < 1<<16; bits += 2 {
		r := bufferOfBits(4088, bits)
		for i := range 3 {
			expectMovedLikeReference(t, r, onCircle(r.Start+(bits/2+i*6)%17))
		}
	}
}

func TestMoveStartOfInvalidBuffers(t *testing.T) {
	for _, r := range someInvalidBuffers() {
		for _, distance := range []int{0, 1, 2, 3, 15, 16, 17, 2047, 2048, 4095} {
			expectMoved(t, r, onCircle(r.Start+distance), r)
		}
		for _, seq := range []int{r.Start, r.Start + 1, 9, -1, 4096, math.MinInt, math.MaxInt} {
			expectMoved(t, r, seq, r)
		}
	}
	// The frame with the number Start may not be pending.
	for _, r := range []impl.ReorderBuffer{bufferAt(7, 0), bufferAt(7, 0, 1), bufferAt(4095, 0, 1, 2)} {
		expectMoved(t, r, r.Start, r)
		expectMoved(t, r, onCircle(r.Start+1), r)
		expectIgnoredArrival(t, r, r.Start, "a")
	}
}

// It makes no difference whether the start is moved at once or in two steps.
func TestMoveStartInSteps(t *testing.T) {
	someBuffers([]int{7, 4086, 4090}, func(r impl.ReorderBuffer) {
		for first := range 18 {
			half, bodies := impl.MoveStart(r, onCircle(r.Start+first))
			for second := first; second < 19; second++ {
				got, rest := impl.MoveStart(half, onCircle(r.Start+second))
				want, delivered := movedReference(r, onCircle(r.Start+second))
				expectSettled(t, r, got, slices.Concat(bodies, rest), want, delivered)
			}
		}
	})
}

// A frame beyond the window has the effect of a move, and of its arrival as the last frame of the window.
func TestFramesBeyondTheWindowMoveIt(t *testing.T) {
	someBuffers([]int{7, 4080, 4090}, func(r impl.ReorderBuffer) {
		for distance := 16; distance < 36; distance++ {
			seq := onCircle(r.Start + distance)
			moved, bodies := impl.MoveStart(r, onCircle(seq-15))
			got, rest := impl.ReceiveNumbered(moved, seq, []byte("new"))
			expectArrival(t, r, seq, "new", got, textsOf(slices.Concat(bodies, rest))...)
		}
	})
}

func TestBlockAckOf(t *testing.T) {
	for _, c := range []struct {
		r    impl.ReorderBuffer
		want impl.BlockAck
	}{
		{bufferAt(0), blockAck(0, 0)}, {bufferAt(7), blockAck(7, 0)}, {bufferAt(4095), blockAck(4095, 0)},
		{bufferAt(7, 1), blockAck(7, 2)}, {bufferAt(7, 2), blockAck(7, 4)}, {bufferAt(7, 1, 2), blockAck(7, 6)}, {bufferAt(7, 15), blockAck(7, 32768)}, {bufferAt(7, 1, 15), blockAck(7, 32770)}, {fullBuffer(7), blockAck(7, 65534)},
		{bufferAt(4095, 1, 2), blockAck(4095, 6)}, {bufferAt(4095, 15), blockAck(4095, 32768)}, {bufferAt(4090, 5, 6, 7), blockAck(4090, 224)}, {fullBuffer(4088), blockAck(4088, 65534)}, {fullBuffer(4095), blockAck(4095, 65534)},
		// Invalid buffers.
		{bufferAt(7, 0), impl.BlockAck{}}, {bufferAt(7, 16), impl.BlockAck{}}, {bufferAt(7, 2, 1), impl.BlockAck{}}, {bufferAt(7, 1, 1), impl.BlockAck{}}, {bufferOf(-1), impl.BlockAck{}}, {bufferOf(4096), impl.BlockAck{}}, {bufferOf(7, numberedFrame(8, string(bodyOf(101)))), impl.BlockAck{}},
	} {
		expectBlockAckOf(t, c.r, c.want)
	}
	for _, r := range someInvalidBuffers() {
		expectBlockAckOf(t, r, impl.BlockAck{})
	}
}

func TestBlockAckOfAllSets(t *testing.T) {
	for _, start := range []int{7, 4080, 4088, 4095} {
		for bits := 0; bits < 1<<16; bits += 2 {
			r := bufferOfBits(start, bits)
			expectBlockAckOf(t, r, blockAck(start, bits))
			if bits%64 == 2 {
				expectBlockAckOf(t, r, bitmapReference(r))
				expectValidAck(t, impl.BlockAckOf(r), true)
			}
		}
	}
	for start := range 4096 {
		expectBlockAckOf(t, bufferAt(start), blockAck(start, 0))
		expectBlockAckOf(t, bufferAt(start, 1, 9, 15), blockAck(start, 1<<15|1<<9|2))
	}
}

func TestMissingNumbers(t *testing.T) {
	for _, c := range []struct {
		r    impl.ReorderBuffer
		want []int
	}{
		{bufferAt(0), nil}, {bufferAt(7), nil}, {bufferAt(4095), nil},
		{bufferAt(7, 1), []int{7}}, {bufferAt(7, 2), []int{7, 8}}, {bufferAt(7, 3, 4), []int{7, 8, 9}}, {bufferAt(7, 1, 2, 3), []int{7}},
		{bufferAt(7, 1, 3), []int{7, 9}}, {bufferAt(7, 1, 4), []int{7, 9, 10}}, {bufferAt(7, 2, 4, 5, 8), []int{7, 8, 10, 13, 14}}, {bufferAt(7, 1, 2, 15), append([]int{7}, seqsFrom(10, 12)...)},
		{bufferAt(7, 15), seqsFrom(7, 15)}, {bufferAt(7, 14), seqsFrom(7, 14)}, {fullBuffer(7), []int{7}}, {bufferAt(7, upTo(16)[2:]...), []int{7, 8}},
		{bufferAt(4095, 1), []int{4095}}, {bufferAt(4095, 2), []int{4095, 0}}, {bufferAt(4093, 1, 4), []int{4093, 4095, 0}}, {bufferAt(4093, 3, 5), []int{4093, 4094, 4095, 1}}, {bufferAt(4090, 15), []int{4090, 4091, 4092, 4093, 4094, 4095, 0, 1, 2, 3, 4, 5, 6, 7, 8}}, {fullBuffer(4088), []int{4088}}, {bufferAt(4080, 15), seqsFrom(4080, 15)}, {bufferAt(0, 2), []int{0, 1}},
		// Invalid buffers.
		{bufferAt(7, 0, 2), nil}, {bufferAt(7, 16), nil}, {bufferAt(7, 4, 2), nil}, {bufferAt(7, 2, 2), nil}, {bufferAt(7, 2048), nil}, {bufferOf(-1), nil}, {bufferOf(-1, numberedFrame(1, "")), nil}, {bufferOf(4096, numberedFrame(1, "")), nil}, {bufferOf(7, numberedFrame(9, string(bodyOf(101)))), nil},
	} {
		expectMissing(t, c.r, c.want...)
	}
	for _, r := range someInvalidBuffers() {
		expectMissing(t, r)
	}
	// Empty bodies are not missing.
	expectMissing(t, bufferOf(7, numberedFrame(8, ""), impl.NumberedFrame{Seq: 10}), 7, 9)
}

func TestMissingNumbersOfAllSets(t *testing.T) {
	for _, start := range []int{7, 4088} {
		for bits := 0; bits < 1<<16; bits += 2 {
			r := bufferOfBits(start, bits)
			expectMissing(t, r, missingReference(r)...)
		}
	}
	for start := range 4096 {
		expectMissing(t, bufferAt(start))
		expectMissing(t, bufferAt(start, 2, 3, 5), start, onCircle(start+1), onCircle(start+4))
	}
}

// When the missing frames arrive, in any order, all of them and the pending ones are delivered.
func TestMissingNumbersComplete(t *testing.T) {
	random := rand.New(rand.NewPCG(22, 1))
	someBuffers([]int{7, 2045, 4085, 4095}, func(r impl.ReorderBuffer) {
		missing := impl.MissingNumbers(r)
		count := len(missing) + len(r.Pending)
		random.Shuffle(len(missing), func(i int, j int) { missing[i], missing[j] = missing[j], missing[i] })
		bodies, left := [][]byte{}, r
		for i, seq := range missing {
			var some [][]byte
			left, some = impl.ReceiveNumbered(left, seq, []byte(nameOf(seq)))
			bodies = append(bodies, some...)
			if got := impl.MissingNumbers(left); len(left.Pending) > 0 && len(got) != len(missing)-1-i {
				t.Fatalf("of %v, %v are missing in %v after %v", r, got, left, missing[:i+1])
			}
		}
		expectSettled(t, r, left, bodies, bufferAt(onCircle(r.Start+count)), namesFrom(r.Start, count))
	})
}

func TestEqualReorderBuffersOfFields(t *testing.T) {
	for _, r := range []impl.ReorderBuffer{bufferAt(7, 1), bufferAt(7, 2, 4, 5), bufferAt(4090, 3, 9), fullBuffer(4088), bufferAt(-1, 7, 7, 3)} {
		expectEqualBuffers(t, r, r, true)
		expectEqualBuffers(t, r, copiedBuffer(r), true)
		for _, start := range slices.Concat(notSeqs, []int{r.Start + 1, r.Start - 1, r.Start + 4096, r.Start - 4096, r.Start + 1<<32, -r.Start, 0, 4095}) {
			expectEqualBuffers(t, r, withStart(r, start), start == r.Start)
		}
		for i, f := range r.Pending {
			for _, seq := range slices.Concat(notSeqs, []int{f.Seq + 1, f.Seq - 1, f.Seq + 4096, f.Seq - 4096, f.Seq + 1<<32, r.Start, f.Seq ^ 2048}) {
				expectEqualBuffers(t, r, withFrame(r, i, impl.NumberedFrame{Seq: seq, Body: f.Body}), seq == f.Seq)
			}
			text := string(f.Body)
			for _, body := range []string{"", text[:1], text[1:], text + "\x00", text + text, "x" + text, "\x00" + text[1:], text[:len(text)-1], string(bodyOf(100)), string(bodyOf(101))} {
				expectEqualBuffers(t, r, withFrame(r, i, numberedFrame(f.Seq, body)), false)
			}
			for j := range f.Body {
				changed := copiedBuffer(r)
				changed.Pending[i].Body[j] ^= 128
				expectEqualBuffers(t, r, changed, false)
			}
			// One frame fewer or more.
			fewer := copiedBuffer(r)
			fewer.Pending = slices.Delete(fewer.Pending, i, i+1)
			expectEqualBuffers(t, r, fewer, false)
			expectEqualBuffers(t, r, withInserted(r, i, f), false)
			expectEqualBuffers(t, r, withInserted(r, len(r.Pending), impl.NumberedFrame{}), false)
			expectEqualBuffers(t, r, withInserted(r, 0, impl.NumberedFrame{}), false)
		}
	}
}

func TestEqualReorderBuffersOfOrderAndEmptySlices(t *testing.T) {
	r := bufferAt(7, 2, 4, 5)
	for _, distances := range [][]int{{2, 5, 4}, {4, 2, 5}, {4, 5, 2}, {5, 2, 4}, {5, 4, 2}, {2, 4}, {4, 5}, {2}, nil, {2, 4, 5, 6}, {2, 4, 5, 5}, {2, 2, 4, 5}} {
		expectEqualBuffers(t, r, bufferAt(7, distances...), false)
	}
	empty, none := []impl.NumberedFrame{}, []impl.NumberedFrame(nil)
	expectEqualBuffers(t, impl.ReorderBuffer{Start: 7, Pending: none}, impl.ReorderBuffer{Start: 7, Pending: empty}, true)
	expectEqualBuffers(t, impl.ReorderBuffer{Start: 7, Pending: none}, impl.ReorderBuffer{Start: 7, Pending: r.Pending[:0]}, true)
	expectEqualBuffers(t, impl.ReorderBuffer{Start: 7, Pending: none}, impl.ReorderBuffer{Start: 8, Pending: empty}, false)
	expectEqualBuffers(t, impl.ReorderBuffer{}, impl.ReorderBuffer{}, true)
	expectEqualBuffers(t, impl.ReorderBuffer{}, bufferOf(0, impl.NumberedFrame{}), false)
	expectEqualBuffers(t, bufferOf(7, impl.NumberedFrame{Seq: 8}), bufferOf(7, numberedFrame(8, "")), true)
	expectEqualBuffers(t, bufferOf(7, impl.NumberedFrame{Seq: 8}), bufferOf(7, impl.NumberedFrame{Seq: 8, Body: make([]byte, 0, 9)}), true)
	expectEqualBuffers(t, bufferOf(7, impl.NumberedFrame{Seq: 8}), bufferOf(7, impl.NumberedFrame{Seq: 8, Body: []byte{0}}), false)
	// Bytes are not moved from one body to another, nor from one number to another.
	expectEqualBuffers(t, bufferOf(7, numberedFrame(8, "ab"), numberedFrame(9, "c")), bufferOf(7, numberedFrame(8, "a"), numberedFrame(9, "bc")), false)
	expectEqualBuffers(t, bufferOf(7, numberedFrame(8, "ab"), numberedFrame(9, "c")), bufferOf(7, numberedFrame(8, "c"), numberedFrame(9, "ab")), false)
	expectEqualBuffers(t, bufferAt(7, 2), bufferOf(8, numberedFrame(9, nameOf(9))), false)
}

// Frames outside the window, of equal numbers and with long bodies count as well.
func TestEqualReorderBuffersAgainstReference(t *testing.T) {
	all := append(someInvalidBuffers(), bufferAt(7), bufferAt(7, 1), bufferAt(7, 2, 3, 6), fullBuffer(10))
	for i, a := range all {
		expectEqualBuffers(t, a, copiedBuffer(a), true)
		for j := i % 3; j < len(all); j += 3 {
			if got := impl.EqualReorderBuffers(a, all[j]); got != alikeBuffers(a, all[j]) {
				t.Fatalf("EqualReorderBuffers(%v, %v) is %v", a, all[j], got)
			}
		}
	}
}

// arriveAll lets the frames arrive that are counted from start, and returns the bodies in the order of their delivery.
func arriveAll(t *testing.T, start int, counts []int) (impl.ReorderBuffer, []string) {
	t.Helper()
	r, delivered := impl.NewReorderBuffer(start), []string{}
	for _, count := range counts {
		seq := onCircle(start + count)
		next, bodies := impl.ReceiveNumbered(r, seq, []byte(nameOf(seq)))
		expectValidBuffer(t, next, true)
		delivered = append(delivered, textsOf(bodies)...)
		r = next
	}
	return r, delivered
}

// expectInOrder expects the frames up to the first one that did not arrive, and the others to be pending.
func expectInOrder(t *testing.T, start int, counts []int) {
	t.Helper()
	r, delivered := arriveAll(t, start, counts)
	first := 0
	for slices.Contains(counts, first) {
		first++
	}
	later := slices.DeleteFunc(slices.Clone(counts), func(count int) bool { return count < first })
	slices.Sort(later)
	want := bufferOf(onCircle(start + first))
	for _, count := range slices.Compact(later) {
		want.Pending = append(want.Pending, numberedFrame(onCircle(start+count), nameOf(onCircle(start+count))))
	}
	if !slices.Equal(delivered, namesFrom(start, first)) || !alikeBuffers(r, want) {
		t.Fatalf("the arrivals %v from %d on deliver %q and leave %v", counts, start, delivered, r)
	}
}

// Promise 22, for every sequence of arrivals of five frames, with losses and repetitions.
func TestFramesOfEveryOrderAreDeliveredInOrder(t *testing.T) {
	for i, counts := range shortLists(upTo(5), 7) {
		expectInOrder(t, []int{0, 700, 4091, 4093, 4095}[i%5], counts)
	}
	// The frames are far apart, so that the whole window is used.
	for _, counts := range shortLists([]int{0, 1, 8, 15}, 6) {
		expectInOrder(t, 4090, counts)
	}
}

// Promise 22, for the frames of a whole window.
func TestFramesOfAWholeWindowAreDeliveredInOrder(t *testing.T) {
	random := rand.New(rand.NewPCG(22, 2))
	for range 20000 {
		counts := random.Perm(16)
		for range random.IntN(16) {
			counts = slices.Insert(counts, random.IntN(len(counts)+1), random.IntN(16))
		}
		// Some arrivals are lost; those of a frame that never arrives, too.
		expectInOrder(t, random.IntN(4096), counts[random.IntN(3)*random.IntN(8):])
	}
}

// courseOfArrivals follows a buffer with frames that are counted beyond the end of the circle.
type courseOfArrivals struct {
	buffer impl.ReorderBuffer
	// first is the number of the frame that is counted as 0.
	first int
	// low is the count of the next frame to deliver.
	low int
	// waiting has the frames that have arrived and are not delivered.
	waiting map[int]bool
	// last is the count of the frame that was delivered last.
	last      int
	delivered int
}

func newArrivals(first int) *courseOfArrivals {
	return &courseOfArrivals{buffer: impl.NewReorderBuffer(first), first: first, waiting: map[int]bool{}, last: -1}
}

func (c *courseOfArrivals) seq(count int) int {
	return onCircle(c.first + count)
}

// take checks that the bodies are those of waiting frames behind all that were delivered before.
func (c *courseOfArrivals) take(t *testing.T, bodies [][]byte) {
	t.Helper()
	for _, body := range bodies {
		count, err := strconv.Atoi(string(body))
		if err != nil || count <= c.last || !c.waiting[count] {
			t.Fatalf("%q is delivered behind %d, while %v wait", body, c.last, c.waiting)
		}
		delete(c.waiting, count)
		c.last = count
		c.delivered++
	}
}

// settle moves the start of the model to low, and over the frames behind it that were delivered.
func (c *courseOfArrivals) settle(low int) {
	c.low = max(c.low, low, c.last+1)
}

// arrive lets the frame with this count arrive; a body that is not the first one of its frame must not be delivered.
func (c *courseOfArrivals) arrive(t *testing.T, count int) {
	t.Helper()
	body := strconv.Itoa(count)
	old := count < c.low
	if c.waiting[count] {
		body = "repeated"
	} else if !old {
		c.waiting[count] = true
	}
	next, bodies := impl.ReceiveNumbered(c.buffer, c.seq(count), []byte(body))
	if old && (len(bodies) > 0 || !alikeBuffers(next, c.buffer)) {
		t.Fatalf("the old frame %d changes %v to %v and delivers %q", count, c.buffer, next, bodies)
	}
	c.buffer = next
	c.take(t, bodies)
	if !old {
		c.settle(count - 15)
	}
}

func (c *courseOfArrivals) move(t *testing.T, count int) {
	t.Helper()
	next, bodies := impl.MoveStart(c.buffer, c.seq(count))
	c.buffer = next
	c.take(t, bodies)
	c.settle(count)
}

// check compares the buffer with the frames that wait.
func (c *courseOfArrivals) check(t *testing.T) {
	t.Helper()
	want := bufferOf(c.seq(c.low))
	for count := c.low; count < c.low+16; count++ {
		if c.waiting[count] {
			want.Pending = append(want.Pending, numberedFrame(c.seq(count), strconv.Itoa(count)))
		}
	}
	if !alikeBuffers(c.buffer, want) || len(c.waiting) != len(want.Pending) || c.waiting[c.low] {
		t.Fatalf("the buffer is %v, not %v, while %v wait", c.buffer, want, c.waiting)
	}
	expectValidBuffer(t, c.buffer, true)
	expectBlockAckOf(t, c.buffer, bitmapReference(want))
	expectMissing(t, c.buffer, missingReference(want)...)
}

// Promise 22, for courses around the circle in which frames are lost, repeated, late, given up and far ahead.
func TestFramesOfLongCoursesAreDeliveredInOrder(t *testing.T) {
	random := rand.New(rand.NewPCG(22, 3))
	longest, most := 0, 0
	for run := range 30 {
		c := newArrivals(random.IntN(4096))
		for range 6000 {
			switch kind := random.IntN(40); {
			case kind < 20:
				c.arrive(t, c.low+random.IntN(16))
			case kind < 28:
				c.arrive(t, c.low)
			case kind < 32:
				c.arrive(t, c.low+random.IntN(16)-random.IntN(40))
			case kind < 34:
				c.arrive(t, c.low-1-random.IntN(2048))
			case kind < 36 && run%3 > 0:
				c.arrive(t, c.low+16+random.IntN(17))
			case kind < 38 && run%3 > 0:
				c.move(t, c.low+random.IntN(18))
			case kind == 38 && run%3 > 1:
				c.arrive(t, c.low+random.IntN(2048))
			case kind == 39 && run%3 > 1:
				c.move(t, c.low+random.IntN(2048))
			}
			c.check(t)
		}
		if run%3 == 0 && c.delivered != c.low {
			t.Fatalf("nothing was given up, but of %d frames only %d are delivered", c.low, c.delivered)
		}
		longest, most = max(longest, c.low), max(most, c.delivered)
	}
	if longest < 3*4096 || most < 4096 {
		t.Errorf("at most %d frames and %d delivered ones are not enough", longest, most)
	}
}

// A sender and a receiver bring all frames over a channel that loses, repeats and reorders frames, and loses acknowledgments.
func TestBlockAcknowledgmentsBringAllFrames(t *testing.T) {
	random := rand.New(rand.NewPCG(22, 4))
	const count = 5000
	for range 4 {
		first := random.IntN(4096)
		s, c := impl.NewBlockSender(first), newArrivals(first)
		sent := 0
		for round := 0; sent < count || !impl.IsDone(s); round++ {
			if round > 20*count {
				t.Fatalf("after %d rounds, %v has not finished", round, s)
			}
			for next, _, ok := impl.SendNext(s); ok && sent < count; next, _, ok = impl.SendNext(s) {
				s = next
				sent++
			}
			c.sendOutstanding(t, random, s, sent)
			c.check(t)
			if random.IntN(3) > 0 {
				s = impl.ReceiveBlockAck(s, impl.BlockAckOf(c.buffer))
			}
		}
		if c.delivered != count || c.low != count || c.buffer.Start != s.Next || len(c.buffer.Pending) != 0 {
			t.Fatalf("of %d frames, %d were delivered; %v and %v are left", count, c.delivered, s, c.buffer)
		}
	}
}

// sendOutstanding lets some of the outstanding frames arrive, in any order.
func (c *courseOfArrivals) sendOutstanding(t *testing.T, random *rand.Rand, s impl.BlockSender, sent int) {
	t.Helper()
	outstanding := impl.Outstanding(s)
	for range random.IntN(20) {
		if len(outstanding) > 0 {
			seq := outstanding[random.IntN(len(outstanding))]
			c.arrive(t, sent-onCircle(s.Next-seq))
		}
	}
}

// A sender that gives up frames tells its start to the receiver, which then waits for none of them.
func TestGivenUpFramesDoNotStopTheOthers(t *testing.T) {
	random := rand.New(rand.NewPCG(22, 5))
	for range 4 {
		first := random.IntN(4096)
		s, c := impl.NewBlockSender(first), newArrivals(first)
		sent := 0
		for range 5000 {
			for range random.IntN(4) {
				if next, _, ok := impl.SendNext(s); ok {
					s = next
					sent++
				}
			}
			c.sendOutstanding(t, random, s, sent)
			s = impl.ReceiveBlockAck(s, impl.BlockAckOf(c.buffer))
			if random.IntN(3) == 0 {
				s = impl.GiveUp(s, s.Start)
				c.move(t, sent-onCircle(s.Next-s.Start))
			}
			c.check(t)
		}
		c.move(t, sent)
		if sent < 4096 || c.low != sent || len(c.waiting) != 0 || c.delivered < sent/2 {
			t.Errorf("of %d frames, %d were delivered, and %v wait", sent, c.delivered, c.waiting)
		}
	}
}

// spareNumbered stand in spare capacity; an append of a frame of theirs would show.
func spareNumbered() []impl.NumberedFrame {
	return []impl.NumberedFrame{numberedFrame(8, "mark"), numberedFrame(2, ""), numberedFrame(4095, "marks")}
}

// guardedBuffer is a copy of the buffer with spare capacity behind all its slices that holds marks.
func guardedBuffer(r impl.ReorderBuffer) impl.ReorderBuffer {
	whole := slices.Concat(r.Pending, spareNumbered())
	for i := range whole {
		whole[i].Body = withSpare(whole[i].Body...)
	}
	return impl.ReorderBuffer{Start: r.Start, Pending: whole[:len(r.Pending)]}
}

// checkGuardedBuffer reports whether the buffer and all spare capacity are as guardedBuffer made them.
func checkGuardedBuffer(t *testing.T, name string, r impl.ReorderBuffer, want impl.ReorderBuffer) {
	t.Helper()
	whole := slices.Concat(want.Pending, spareNumbered())
	for i, f := range r.Pending[:len(whole)] {
		if !alikeNumbered(f, whole[i]) {
			t.Fatalf("%s changed frame %d of its argument or of its spare capacity: %v", name, i, f)
		}
		checkSpare(t, name, f.Body, whole[i].Body...)
	}
}

// spoilBuffer overwrites all the memory of a buffer.
func spoilBuffer(r impl.ReorderBuffer) {
	whole := r.Pending[:cap(r.Pending)]
	for i := range whole {
		spoilBody(whole[i].Body)
		whole[i] = numberedFrame(99, "spoilt")
	}
}

// spoilBodies overwrites the bodies and their list.
func spoilBodies(bodies [][]byte) {
	whole := bodies[:cap(bodies)]
	for i := range whole {
		spoilBody(whole[i])
		whole[i] = []byte("spoilt")
	}
}

// reorderCall answers with a buffer and bodies.
type reorderCall struct {
	name string
	call func(r impl.ReorderBuffer, seq int, body []byte) (impl.ReorderBuffer, [][]byte)
}

var reorderCalls = []reorderCall{
	{"ReceiveNumbered", impl.ReceiveNumbered},
	{"MoveStart", func(r impl.ReorderBuffer, seq int, body []byte) (impl.ReorderBuffer, [][]byte) {
		return impl.MoveStart(r, seq)
	}},
}

// visitReorderCalls visits each call with buffers that are empty, sparse, full and invalid.
func visitReorderCalls(visit func(c reorderCall, r impl.ReorderBuffer, seq int, body []byte)) {
	buffers := []impl.ReorderBuffer{
		bufferAt(7), bufferAt(7, 1, 2, 4), bufferAt(4090, 3, 5, 6, 9), fullBuffer(4088), bufferOf(7, numberedFrame(8, ""), numberedFrame(9, string(bodyOf(100)))),
		bufferAt(7, 0, 1), bufferAt(7, 2, 1), bufferAt(-1, 1, 2), bufferAt(4094, 1, 16), bufferOf(7, numberedFrame(8, string(bodyOf(101))), numberedFrame(9, "")),
	}
	for _, c := range reorderCalls {
		for _, r := range buffers {
			for _, distance := range []int{0, 1, 2, 3, 5, 10, 15, 16, 17, 20, 24, 31, 2047, 2048, 4095} {
				for _, length := range []int{0, 1, 5, 100, 101} {
					visit(c, r, onCircle(r.Start+distance), bodyOf(length))
				}
			}
			visit(c, r, -1, []byte("ab"))
		}
	}
}

func TestFunctionsOfReorderBuffersKeepTheirArguments(t *testing.T) {
	visitReorderCalls(func(c reorderCall, want impl.ReorderBuffer, seq int, body []byte) {
		r, given := guardedBuffer(want), withSpare(body...)
		left, bodies := c.call(r, seq, given)
		spoilBuffer(left)
		spoilBodies(bodies)
		impl.IsValidReorderBuffer(r)
		impl.BlockAckOf(r)
		spoilInts(impl.MissingNumbers(r))
		impl.EqualReorderBuffers(r, r)
		impl.EqualReorderBuffers(r, want)
		checkGuardedBuffer(t, c.name, r, want)
		checkSpare(t, c.name, given, body...)
	})
}

func TestAnswersOfReorderBuffersShareNoMemory(t *testing.T) {
	visitReorderCalls(func(c reorderCall, given impl.ReorderBuffer, seq int, body []byte) {
		r, frame := guardedBuffer(given), withSpare(body...)
		left, bodies := c.call(r, seq, frame)
		want, texts := copiedBuffer(left), textsOf(bodies)
		other, otherBodies := c.call(r, seq, frame)
		spoilBuffer(other)
		spoilBodies(otherBodies)
		if !alikeBuffers(left, want) || !slices.Equal(textsOf(bodies), texts) {
			t.Fatalf("two answers of %s of %v and %d share memory: %v, %q", c.name, given, seq, left, bodies)
		}
		spoilBuffer(r)
		spoilBody(frame)
		if !alikeBuffers(left, want) || !slices.Equal(textsOf(bodies), texts) {
			t.Fatalf("the answer of %s of %v and %d shares memory with its arguments: %v, %q", c.name, given, seq, left, bodies)
		}
	})
}

// Of one answer, no two bodies share memory, whatever the arguments share, nor does a body reach into the capacity of another one.
func TestBodiesOfReorderBuffersShareNoMemory(t *testing.T) {
	visitReorderCalls(func(c reorderCall, given impl.ReorderBuffer, seq int, body []byte) {
		memory := allBytes()
		r := copiedBuffer(given)
		for i := range r.Pending {
			r.Pending[i].Body = memory[:len(r.Pending[i].Body)]
		}
		left, bodies := c.call(r, seq, memory[1:1+len(body)])
		all := slices.Clone(bodies)
		for _, f := range left.Pending {
			all = append(all, f.Body)
		}
		want := textsOf(all)
		for i := range all {
			spoilBody(all[i])
			if got := textsOf(all); !slices.Equal(slices.Delete(got, i, i+1), slices.Delete(slices.Clone(want), i, i+1)) {
				t.Fatalf("bodies of %s of %v and %d share memory: %q", c.name, given, seq, all)
			}
			copy(all[i], want[i])
		}
	})
}

// Lists of missing numbers and new buffers share no memory with those of equal calls.
func TestListsOfReorderBuffersShareNoMemory(t *testing.T) {
	someBuffers([]int{9, 4090}, func(r impl.ReorderBuffer) {
		answer, other := impl.MissingNumbers(r), impl.MissingNumbers(r)
		want := slices.Clone(answer)
		spoilInts(other)
		if !slices.Equal(answer, want) {
			t.Errorf("two answers of MissingNumbers(%v) share memory", r)
		}
		spoilInts(answer)
		expectMissing(t, r, want...)
	})
	spoilInts(append(impl.MissingNumbers(bufferAt(-1)), 1, 2, 3))
	expectMissing(t, bufferAt(-1))
	for _, seq := range []int{7, -1} {
		a, b := impl.NewReorderBuffer(seq), impl.NewReorderBuffer(seq)
		a.Pending = append(a.Pending, numberedFrame(1, "a"))
		b.Pending = append(b.Pending, numberedFrame(2, "b"))
		if a.Pending[0].Seq != 1 || string(a.Pending[0].Body) != "a" {
			t.Errorf("two answers of NewReorderBuffer(%d) share memory", seq)
		}
		expectNewBuffer(t, seq, max(seq, 0))
	}
}

// The calls between two equal calls change nothing, and do not change what was returned.
func TestReorderBuffersKeepNoState(t *testing.T) {
	type answer struct {
		left   impl.ReorderBuffer
		bodies [][]byte
	}
	answers, wants := []answer{}, []answer{}
	for range 2 {
		visitReorderCalls(func(c reorderCall, r impl.ReorderBuffer, seq int, body []byte) {
			left, bodies := c.call(r, seq, body)
			answers = append(answers, answer{left, bodies})
			copies := [][]byte{}
			for _, text := range textsOf(bodies) {
				copies = append(copies, []byte(text))
			}
			wants = append(wants, answer{copiedBuffer(left), copies})
		})
	}
	alike := func(a answer, b answer) bool {
		return alikeBuffers(a.left, b.left) && slices.Equal(textsOf(a.bodies), textsOf(b.bodies))
	}
	half := len(answers) / 2
	if !slices.EqualFunc(answers, wants, alike) || !slices.EqualFunc(answers[:half], answers[half:], alike) {
		t.Error("answers differ from those to the same calls before, or were changed by later calls")
	}
}
