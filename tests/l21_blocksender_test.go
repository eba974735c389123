package tests

import (
	"math"
	"math/rand/v2"
	"slices"
	"testing"

	"loop.example/g00511/impl"
)

// windowBits has the bits of a full window.
const windowBits = 65535

// notBitmaps have other bits than those of a window.
var notBitmaps = []int{-1, 65536, -2, -65536, -65535, 65537, 65538, 131071, 131072, 1 << 20, 1 << 32, 1<<32 + 5, 1 << 48, 1 << 62, math.MinInt, math.MinInt + 2, math.MaxInt - 1, math.MaxInt}

func sender(start int, next int, acked int) impl.BlockSender {
	return impl.BlockSender{Start: start, Next: next, Acked: acked}
}

func blockAck(start int, bitmap int) impl.BlockAck {
	return impl.BlockAck{Start: start, Bitmap: bitmap}
}

// bitsOf is the number with these bits.
func bitsOf(indices ...int) int {
	n := 0
	for _, i := range indices {
		n |= 1 << i
	}
	return n
}

// onCircle is the number of a frame that is counted beyond the end of the circle, or before its beginning.
func onCircle(n int) int {
	return n & seqBits
}

// seqsFrom are so many numbers from start on.
func seqsFrom(start int, count int) []int {
	seqs := []int{}
	for i := range count {
		seqs = append(seqs, onCircle(start+i))
	}
	return seqs
}

// sizeOfWindow counts from Start to Next, for at most 17 steps; -1 for more, or if one of them is out of range.
func sizeOfWindow(s impl.BlockSender) int {
	if s.Start != onCircle(s.Start) || s.Next != onCircle(s.Next) {
		return -1
	}
	return slices.Index(seqsFrom(s.Start, 18), s.Next)
}

func validSenderReference(s impl.BlockSender) bool {
	size := sizeOfWindow(s)
	return size >= 0 && size <= 16 && s.Acked >= 0 && s.Acked < 1<<size && s.Acked%2 == 0
}

func validAckReference(a impl.BlockAck) bool {
	return a.Start == onCircle(a.Start) && a.Bitmap == a.Bitmap&windowBits
}

func outstandingReference(s impl.BlockSender) []int {
	if !validSenderReference(s) {
		return []int{}
	}
	return slices.DeleteFunc(seqsFrom(s.Start, sizeOfWindow(s)), func(seq int) bool {
		return s.Acked&(1<<onCircle(seq-s.Start)) != 0
	})
}

// senderOf is the sender of which these frames before next are outstanding.
func senderOf(next int, outstanding []int) impl.BlockSender {
	if len(outstanding) == 0 {
		return sender(next, next, 0)
	}
	start := outstanding[0]
	acked := 1<<onCircle(next-start) - 1
	for _, seq := range outstanding {
		acked -= 1 << onCircle(seq-start)
	}
	return sender(start, next, acked)
}

func sentReference(s impl.BlockSender) (impl.BlockSender, int, bool) {
	if !validSenderReference(s) || sizeOfWindow(s) == 16 {
		return s, 0, false
	}
	return sender(s.Start, onCircle(s.Next+1), s.Acked), s.Next, true
}

// tellsOf reports whether the acknowledgment has a frame before its start, or a bit for it.
func tellsOf(a impl.BlockAck, seq int) bool {
	before := onCircle(a.Start - seq)
	if before >= 1 && before <= 2047 {
		return true
	}
	place := slices.Index(seqsFrom(a.Start, 16), seq)
	return place >= 0 && a.Bitmap>>place%2 == 1
}

func acknowledgedReference(s impl.BlockSender, a impl.BlockAck) impl.BlockSender {
	if !validSenderReference(s) || !validAckReference(a) || onCircle(s.Next-a.Start) > 2047 {
		return s
	}
	return senderOf(s.Next, slices.DeleteFunc(outstandingReference(s), func(seq int) bool { return tellsOf(a, seq) }))
}

func givenUpReference(s impl.BlockSender, seq int) impl.BlockSender {
	left := outstandingReference(s)
	place := slices.Index(left, seq)
	if place < 0 {
		return s
	}
	return senderOf(s.Next, slices.Delete(left, place, place+1))
}

// startsAround are numbers from which windows wrap, and some others.
func startsAround() []int {
	return slices.Concat(seqsFrom(4078, 20), []int{16, 17, 700, 2031, 2032, 2047, 2048, 2049})
}

// someAcked are sets of acknowledged frames that a window of this size may have.
func someAcked(size int) []int {
	list := []int{0}
	if size < 2 {
		return list
	}
	whole := 1<<size - 2
	for i := 1; i < size; i++ {
		list = append(list, 1<<i, whole-1<<i)
	}
	return append(list, whole, whole&0x5555, whole&0xaaaa, whole&0x3c3c, whole&0x00fe)
}

// someSenders visits valid senders of all window sizes.
func someSenders(starts []int, visit func(s impl.BlockSender)) {
	for _, start := range starts {
		for size := range 17 {
			for _, acked := range someAcked(size) {
				visit(sender(start, onCircle(start+size), acked))
			}
		}
	}
}

// spoiltSenders are copies of the valid sender that are invalid in one way each.
func spoiltSenders(s impl.BlockSender) []impl.BlockSender {
	list := []impl.BlockSender{}
	for _, v := range notSeqs {
		list = append(list, sender(v, s.Next, s.Acked), sender(s.Start, v, s.Acked))
	}
	for _, distance := range []int{17, 18, 32, 2047, 2048, 2049, 4094, 4095} {
		list = append(list, sender(s.Start, onCircle(s.Start+distance), s.Acked), sender(onCircle(s.Next-distance), s.Next, s.Acked))
	}
	for _, acked := range notBitmaps {
		list = append(list, sender(s.Start, s.Next, acked))
	}
	size := onCircle(s.Next - s.Start)
	return append(list, sender(s.Start, s.Next, s.Acked|1), sender(s.Start, s.Next, s.Acked|1<<size), sender(s.Start, s.Next, s.Acked|2<<size))
}

func spoiltAcks(a impl.BlockAck) []impl.BlockAck {
	list := []impl.BlockAck{}
	for _, v := range notSeqs {
		list = append(list, blockAck(v, a.Bitmap))
	}
	for _, v := range notBitmaps {
		list = append(list, blockAck(a.Start, v))
	}
	return append(list, blockAck(a.Start, a.Bitmap|1<<16), blockAck(a.Start, a.Bitmap|1<<17), blockAck(a.Start, a.Bitmap|math.MinInt))
}

// someInvalidSenders are of each kind, with empty, small and full windows.
func someInvalidSenders() []impl.BlockSender {
	list := []impl.BlockSender{}
	for _, s := range []impl.BlockSender{sender(0, 0, 0), sender(7, 7, 0), sender(7, 8, 0), sender(7, 10, 2), sender(4094, 2, 4), sender(10, 26, 0), sender(4090, 10, 65534)} {
		list = append(list, spoiltSenders(s)...)
	}
	return list
}

func expectNewSender(t *testing.T, seq int, want impl.BlockSender) {
	t.Helper()
	if got := impl.NewBlockSender(seq); got != want {
		t.Errorf("NewBlockSender(%d) is %v, not %v", seq, got, want)
	}
}

func expectValidSender(t *testing.T, s impl.BlockSender, want bool) {
	t.Helper()
	if got := impl.IsValidBlockSender(s); got != want {
		t.Errorf("IsValidBlockSender(%v) is %v", s, got)
	}
}

func expectValidAck(t *testing.T, a impl.BlockAck, want bool) {
	t.Helper()
	if got := impl.IsValidBlockAck(a); got != want {
		t.Errorf("IsValidBlockAck(%v) is %v", a, got)
	}
}

func expectSent(t *testing.T, s impl.BlockSender, want impl.BlockSender, seq int, ok bool) {
	t.Helper()
	got, gotSeq, gotOK := impl.SendNext(s)
	if got != want || gotSeq != seq || gotOK != ok {
		t.Errorf("SendNext(%v) is %v, %d, %v, not %v, %d, %v", s, got, gotSeq, gotOK, want, seq, ok)
	}
}

func expectSentLikeReference(t *testing.T, s impl.BlockSender) {
	t.Helper()
	want, seq, ok := sentReference(s)
	expectSent(t, s, want, seq, ok)
}

func expectOutstanding(t *testing.T, s impl.BlockSender, want ...int) {
	t.Helper()
	if got := impl.Outstanding(s); !slices.Equal(got, want) || got == nil {
		t.Errorf("Outstanding(%v) is %#v, not %v", s, got, want)
	}
}

func expectAcknowledged(t *testing.T, s impl.BlockSender, a impl.BlockAck, want impl.BlockSender) {
	t.Helper()
	if got := impl.ReceiveBlockAck(s, a); got != want {
		t.Errorf("ReceiveBlockAck(%v, %v) is %v, not %v", s, a, got, want)
	}
}

func expectGivenUp(t *testing.T, s impl.BlockSender, seq int, want impl.BlockSender) {
	t.Helper()
	if got := impl.GiveUp(s, seq); got != want {
		t.Errorf("GiveUp(%v, %d) is %v, not %v", s, seq, got, want)
	}
}

func expectDone(t *testing.T, s impl.BlockSender, want bool) {
	t.Helper()
	if got := impl.IsDone(s); got != want {
		t.Errorf("IsDone(%v) is %v", s, got)
	}
}

func TestConstantsOfBlockSenders(t *testing.T) {
	if impl.BlockWindow != 16 || impl.MaxSeq != 4095 {
		t.Error(impl.BlockWindow, impl.MaxSeq)
	}
}

func TestNewBlockSender(t *testing.T) {
	for _, c := range []struct{ seq, want int }{
		{-1, 0}, {0, 0}, {1, 1}, {4094, 4094}, {4095, 4095}, {4096, 0}, {math.MinInt, 0}, {math.MaxInt, 0},
	} {
		expectNewSender(t, c.seq, sender(c.want, c.want, 0))
	}
	for seq := range 4096 {
		expectNewSender(t, seq, sender(seq, seq, 0))
		expectValidSender(t, sender(seq, seq, 0), true)
	}
	for _, seq := range notSeqs {
		expectNewSender(t, seq, impl.BlockSender{})
	}
}

func TestIsValidBlockSender(t *testing.T) {
	for _, c := range []struct {
		start, next, acked int
		want               bool
	}{
		{0, 0, 0, true}, {4095, 4095, 0, true}, {0, 1, 0, true}, {4095, 0, 0, true}, {4094, 2, 0, true},
		{10, 26, 0, true}, {10, 27, 0, false}, {10, 25, 0, true}, {10, 10, 0, true}, {10, 9, 0, false},
		// Next is before Start.
		{4090, 5, 0, true}, {4090, 10, 0, true}, {4090, 11, 0, false}, {4095, 15, 0, true}, {4095, 16, 0, false}, {4080, 0, 0, true}, {4080, 1, 0, false}, {4079, 0, 0, false},
		{1, 0, 0, false}, {0, 4095, 0, false}, {5, 4090, 0, false}, {26, 10, 0, false}, {4095, 4094, 0, false}, {2, 4094, 0, false},
		// Half of the circle, and all of it but one.
		{0, 2047, 0, false}, {0, 2048, 0, false}, {0, 2049, 0, false}, {3000, 951, 0, false}, {3000, 952, 0, false}, {3000, 2999, 0, false},
		{-1, 0, 0, false}, {-1, -1, 0, false}, {4096, 0, 0, false}, {4096, 4096, 0, false}, {0, 4096, 0, false}, {4095, 4096, 0, false}, {0, -1, 0, false}, {4095, -1, 0, false},
		{math.MinInt, math.MinInt, 0, false}, {math.MaxInt, math.MaxInt, 0, false}, {math.MaxInt, math.MinInt, 0, false}, {math.MinInt, 0, 0, false}, {0, math.MaxInt, 0, false},
		// Acked of the windows 4094 to 1 and 7 to 9.
		{4094, 2, 2, true}, {4094, 2, 4, true}, {4094, 2, 8, true}, {4094, 2, 14, true}, {4094, 2, 10, true}, {4094, 2, 1, false}, {4094, 2, 3, false}, {4094, 2, 15, false}, {4094, 2, 16, false}, {4094, 2, 32, false}, {4094, 2, 18, false}, {4094, 2, -2, false},
		{7, 10, 0, true}, {7, 10, 1, false}, {7, 10, 2, true}, {7, 10, 3, false}, {7, 10, 4, true}, {7, 10, 5, false}, {7, 10, 6, true}, {7, 10, 7, false}, {7, 10, 8, false}, {7, 10, 16, false}, {7, 10, 10, false}, {7, 10, -1, false}, {7, 10, math.MinInt, false}, {7, 10, math.MaxInt, false},
		// Neither an empty window nor one of a single frame has acknowledged frames.
		{7, 7, 1, false}, {7, 7, 2, false}, {7, 7, -1, false}, {7, 8, 1, false}, {7, 8, 2, false}, {7, 8, 4, false}, {7, 9, 2, true}, {7, 9, 1, false}, {7, 9, 4, false},
		{10, 26, 65534, true}, {10, 26, 65535, false}, {10, 26, 32768, true}, {10, 26, 65536, false}, {10, 26, 131072, false}, {10, 26, 65538, false},
		{10, 27, 2, false}, {10, 27, 65536, false}, {5, 4, 2, false},
	} {
		expectValidSender(t, sender(c.start, c.next, c.acked), c.want)
	}
}

func TestIsValidBlockSenderAtLimits(t *testing.T) {
	places := slices.Concat([]int{0, 1, 15, 16, 17, 2047, 2048, 4078, 4079, 4080, 4094, 4095}, notSeqs)
	for _, start := range places {
		for _, next := range places {
			for _, acked := range []int{-1, 0, 1, 2, 65534, 65536, math.MinInt, math.MaxInt} {
				expectValidSender(t, sender(start, next, acked), validSenderReference(sender(start, next, acked)))
			}
		}
	}
}

func TestIsValidBlockSenderOfAllDistances(t *testing.T) {
	for start := range 4096 {
		for distance := range 18 {
			expectValidSender(t, sender(start, onCircle(start+distance), 0), distance <= 16)
		}
		for _, distance := range []int{2047, 2048, 2049, 4079, 4080, 4094, 4095} {
			expectValidSender(t, sender(start, onCircle(start+distance), 0), false)
		}
	}
	for distance := range 4096 {
		for _, start := range []int{0, 1, 2048, 4094, 4095} {
			expectValidSender(t, sender(start, onCircle(start+distance), 0), distance <= 16)
		}
	}
}

// Every set of the window and two frames behind it, and all single bits.
func TestIsValidBlockSenderOfAllAcked(t *testing.T) {
	for size := range 17 {
		for _, start := range []int{7, onCircle(4096 - size/2), onCircle(4096 - size)} {
			next := onCircle(start + size)
			for acked := range 4 << size {
				expectValidSender(t, sender(start, next, acked), acked%2 == 0 && acked < 1<<size)
			}
			for bit := range 64 {
				expectValidSender(t, sender(start, next, 1<<bit), bit > 0 && bit < size)
				expectValidSender(t, sender(start, next, 1<<bit|1), false)
				expectValidSender(t, sender(start, next, -1<<bit), false)
			}
			for _, acked := range notBitmaps {
				expectValidSender(t, sender(start, next, acked), false)
			}
		}
	}
}

func TestIsValidBlockAck(t *testing.T) {
	starts := slices.Concat([]int{0, 1, 2047, 2048, 4094, 4095}, notSeqs)
	bitmaps := slices.Concat([]int{0, 1, 2, 3, 255, 32767, 32768, 65534, 65535}, notBitmaps)
	for i, start := range starts {
		for j, bitmap := range bitmaps {
			expectValidAck(t, blockAck(start, bitmap), i < 6 && j < 9)
		}
	}
	for start := range 4096 {
		expectValidAck(t, blockAck(start, 0), true)
		expectValidAck(t, blockAck(start, windowBits), true)
		expectValidAck(t, blockAck(start, windowBits+1), false)
		expectValidAck(t, blockAck(start, -1), false)
	}
	for bitmap := range 1 << 18 {
		expectValidAck(t, blockAck(4095, bitmap), bitmap <= windowBits)
		expectValidAck(t, blockAck(-1, bitmap), false)
		expectValidAck(t, blockAck(4096, bitmap), false)
	}
	for bit := range 64 {
		expectValidAck(t, blockAck(7, 1<<bit), bit < 16)
		expectValidAck(t, blockAck(7, 1<<bit|1), bit < 16)
	}
}

func TestSendNext(t *testing.T) {
	for _, c := range []struct {
		s, want impl.BlockSender
		seq     int
		ok      bool
	}{
		{sender(0, 0, 0), sender(0, 1, 0), 0, true},
		{sender(7, 7, 0), sender(7, 8, 0), 7, true},
		{sender(7, 10, 4), sender(7, 11, 4), 10, true},
		{sender(4095, 4095, 0), sender(4095, 0, 0), 4095, true},
		{sender(4094, 4095, 0), sender(4094, 0, 0), 4095, true},
		{sender(4094, 0, 2), sender(4094, 1, 2), 0, true},
		{sender(10, 25, 32766), sender(10, 26, 32766), 25, true},
		{sender(4085, 4, 2), sender(4085, 5, 2), 4, true},
		// The window is full.
		{sender(10, 26, 0), sender(10, 26, 0), 0, false},
		{sender(10, 26, 65534), sender(10, 26, 65534), 0, false},
		{sender(4085, 5, 2), sender(4085, 5, 2), 0, false},
		{sender(4080, 0, 0), sender(4080, 0, 0), 0, false},
		// The sender is invalid.
		{sender(10, 27, 0), sender(10, 27, 0), 0, false},
		{sender(7, 10, 1), sender(7, 10, 1), 0, false},
		{sender(7, 10, 8), sender(7, 10, 8), 0, false},
		{sender(7, 10, -2), sender(7, 10, -2), 0, false},
		{sender(7, 6, 0), sender(7, 6, 0), 0, false},
		{sender(-1, 5, 0), sender(-1, 5, 0), 0, false},
		{sender(5, 4096, 0), sender(5, 4096, 0), 0, false},
		{sender(math.MaxInt, math.MinInt, math.MaxInt), sender(math.MaxInt, math.MinInt, math.MaxInt), 0, false},
	} {
		expectSent(t, c.s, c.want, c.seq, c.ok)
	}
	someSenders(startsAround(), func(s impl.BlockSender) {
		expectSentLikeReference(t, s)
	})
	for _, s := range someInvalidSenders() {
		expectSent(t, s, s, 0, false)
	}
}

// From every number on, 16 frames are sent, and no more until one of them is finished.
func TestSendNextUntilTheWindowIsFull(t *testing.T) {
	for start := range 4096 {
		s := impl.NewBlockSender(start)
		for i := range 16 {
			want := sender(start, onCircle(start+i+1), 0)
			expectSent(t, s, want, onCircle(start+i), true)
			s = want
			expectOutstanding(t, s, seqsFrom(start, i+1)...)
		}
		expectSent(t, s, s, 0, false)
	}
}

// Frames are acknowledged between those that are sent; only the first outstanding one makes room.
func TestSendNextWithAcknowledgedFrames(t *testing.T) {
	for _, start := range startsAround() {
		s := impl.NewBlockSender(start)
		for range 16 {
			s, _, _ = impl.SendNext(s)
		}
		for i := 15; i > 0; i-- {
			s = impl.GiveUp(s, onCircle(start+i))
			expectSent(t, s, s, 0, false)
		}
		expectOutstanding(t, s, start)
		next := onCircle(start + 16)
		s = impl.GiveUp(s, start)
		expectSent(t, s, sender(next, onCircle(next+1), 0), next, true)
		s, _, _ = impl.SendNext(s)
		for i := range 15 {
			s = impl.ReceiveBlockAck(s, blockAck(next, bitsOf(i)))
			seq := onCircle(next + 1 + i)
			want := sender(seq, onCircle(seq+1), 0)
			expectSent(t, s, want, seq, true)
			s = want
		}
	}
}

func TestOutstanding(t *testing.T) {
	expectOutstanding(t, sender(0, 0, 0))
	expectOutstanding(t, sender(4095, 4095, 0))
	expectOutstanding(t, sender(4094, 2, 0), 4094, 4095, 0, 1)
	expectOutstanding(t, sender(4094, 2, 2), 4094, 0, 1)
	expectOutstanding(t, sender(4094, 2, 4), 4094, 4095, 1)
	expectOutstanding(t, sender(4094, 2, 8), 4094, 4095, 0)
	expectOutstanding(t, sender(4094, 2, 6), 4094, 1)
	expectOutstanding(t, sender(4094, 2, 14), 4094)
	expectOutstanding(t, sender(4095, 0, 0), 4095)
	expectOutstanding(t, sender(0, 1, 0), 0)
	expectOutstanding(t, sender(10, 26, 0), 10, 11, 12, 13, 14, 15, 16, 17, 18, 19, 20, 21, 22, 23, 24, 25)
	expectOutstanding(t, sender(10, 26, 65534), 10)
	expectOutstanding(t, sender(10, 26, 32768), 10, 11, 12, 13, 14, 15, 16, 17, 18, 19, 20, 21, 22, 23, 24)
	expectOutstanding(t, sender(4088, 8, 0), 4088, 4089, 4090, 4091, 4092, 4093, 4094, 4095, 0, 1, 2, 3, 4, 5, 6, 7)
	expectOutstanding(t, sender(4088, 8, 65534), 4088)
	for _, s := range slices.Concat(someInvalidSenders(), []impl.BlockSender{sender(10, 27, 0), sender(7, 10, 1), sender(7, 10, 8), sender(7, 10, -2), sender(-1, 3, 0), sender(3, 4096, 0), sender(5, 4, 0)}) {
		expectOutstanding(t, s)
	}
}

func TestOutstandingOfAllPatterns(t *testing.T) {
	for size := range 17 {
		for _, start := range []int{9, onCircle(4096 - size/2)} {
			for acked := 0; acked < 1<<size; acked += 2 {
				s := sender(start, onCircle(start+size), acked)
				expectOutstanding(t, s, outstandingReference(s)...)
				// What was built from the outstanding frames alone is the same sender.
				if got := senderOf(s.Next, impl.Outstanding(s)); got != s {
					t.Errorf("the outstanding frames of %v are those of %v", s, got)
				}
			}
		}
	}
	someSenders(startsAround(), func(s impl.BlockSender) {
		expectOutstanding(t, s, outstandingReference(s)...)
	})
}

func TestReceiveBlockAck(t *testing.T) {
	small, wrapping, full := sender(7, 12, 0), sender(4094, 2, 0), sender(10, 26, 0)
	for _, c := range []struct {
		s    impl.BlockSender
		a    impl.BlockAck
		want impl.BlockSender
	}{
		// Start alone: before the sender's Start, equal to it, inside of the window and equal to Next.
		{small, blockAck(0, 0), small}, {small, blockAck(6, 0), small}, {small, blockAck(7, 0), small}, {small, blockAck(4095, 0), small},
		{small, blockAck(8, 0), sender(8, 12, 0)}, {small, blockAck(11, 0), sender(11, 12, 0)}, {small, blockAck(12, 0), sender(12, 12, 0)},
		// Behind Next, nothing was sent.
		{small, blockAck(13, 0), small}, {small, blockAck(13, 65535), small}, {small, blockAck(28, 1), small}, {small, blockAck(2059, 0), small},
		// The distance to Next is 2046, 2047, 2048 and 4095, and bits for the window are too far away or do not count.
		{small, blockAck(12-2046+4096, 65535), small}, {small, blockAck(12-2047+4096, 65535), small}, {small, blockAck(12-2048+4096, 65535), small},
		{sender(2040, 2047, 0), blockAck(0, 65535), sender(2040, 2047, 0)}, {sender(2040, 2048, 0), blockAck(0, 65535), sender(2040, 2048, 0)},
		// Bits alone.
		{small, blockAck(7, 1), sender(8, 12, 0)}, {small, blockAck(7, 2), sender(7, 12, 2)}, {small, blockAck(7, 4), sender(7, 12, 4)}, {small, blockAck(7, 16), sender(7, 12, 16)},
		{small, blockAck(7, 3), sender(9, 12, 0)}, {small, blockAck(7, 31), sender(12, 12, 0)}, {small, blockAck(7, 65535), sender(12, 12, 0)}, {small, blockAck(7, 30), sender(7, 12, 30)}, {small, blockAck(7, 21), sender(8, 12, 10)},
		// Bits at Next and behind it.
		{small, blockAck(7, 32), small}, {small, blockAck(7, 64), small}, {small, blockAck(7, 32768), small}, {small, blockAck(7, 65504), small}, {small, blockAck(12, 65535), sender(12, 12, 0)},
		// Bits of an acknowledgment that begins before the window.
		{small, blockAck(0, 128), sender(8, 12, 0)}, {small, blockAck(0, 127), small}, {small, blockAck(0, 256), sender(7, 12, 2)}, {small, blockAck(4088, 32768), sender(8, 12, 0)}, {small, blockAck(4087, 65535), small}, {small, blockAck(4091, 32768), sender(7, 12, 8)},
		// Start and bits together move Start, up to a gap that stays.
		{small, blockAck(9, 1), sender(10, 12, 0)}, {small, blockAck(9, 3), sender(11, 12, 0)}, {small, blockAck(9, 7), sender(12, 12, 0)}, {small, blockAck(9, 5), sender(10, 12, 2)}, {small, blockAck(8, 10), sender(8, 12, 10)}, {small, blockAck(10, 2), sender(10, 12, 2)},
		// Frames that are acknowledged already: they need not be told of again, and make Start move when the first frame is acknowledged.
		{sender(7, 12, 2), blockAck(7, 1), sender(9, 12, 0)}, {sender(7, 12, 2), blockAck(7, 2), sender(7, 12, 2)}, {sender(7, 12, 6), blockAck(8, 0), sender(10, 12, 0)}, {sender(7, 12, 30), blockAck(7, 1), sender(12, 12, 0)}, {sender(7, 12, 20), blockAck(8, 1), sender(10, 12, 2)}, {sender(7, 12, 8), blockAck(7, 22), sender(7, 12, 30)},
		// Around the end of the circle.
		{wrapping, blockAck(4094, 6), sender(4094, 2, 6)}, {sender(4094, 2, 6), blockAck(4095, 0), sender(1, 2, 0)}, {sender(1, 2, 0), blockAck(3, 0), sender(1, 2, 0)},
		{wrapping, blockAck(4095, 0), sender(4095, 2, 0)}, {wrapping, blockAck(0, 0), sender(0, 2, 0)}, {wrapping, blockAck(1, 0), sender(1, 2, 0)}, {wrapping, blockAck(2, 0), sender(2, 2, 0)}, {wrapping, blockAck(3, 0), wrapping}, {wrapping, blockAck(4093, 0), wrapping}, {wrapping, blockAck(4093, 2), sender(4095, 2, 0)},
		{wrapping, blockAck(4095, 6), sender(4095, 2, 6)}, {wrapping, blockAck(4095, 3), sender(1, 2, 0)}, {wrapping, blockAck(4094, 15), sender(2, 2, 0)}, {wrapping, blockAck(4079, 32768), sender(4095, 2, 0)}, {wrapping, blockAck(4078, 65535), wrapping},
		{sender(4095, 0, 0), blockAck(0, 0), sender(0, 0, 0)}, {sender(4095, 0, 0), blockAck(4095, 1), sender(0, 0, 0)}, {sender(4095, 0, 0), blockAck(1, 1), sender(4095, 0, 0)},
		// Full windows.
		{full, blockAck(10, 32768), sender(10, 26, 32768)}, {full, blockAck(10, 65535), sender(26, 26, 0)}, {full, blockAck(10, 65534), sender(10, 26, 65534)}, {full, blockAck(26, 0), sender(26, 26, 0)}, {full, blockAck(25, 1), sender(26, 26, 0)}, {full, blockAck(25, 0), sender(25, 26, 0)}, {full, blockAck(27, 0), full}, {full, blockAck(10, 32767), sender(25, 26, 0)}, {sender(10, 26, 65534), blockAck(10, 1), sender(26, 26, 0)}, {sender(10, 26, 65534), blockAck(10, 65534), sender(10, 26, 65534)},
		// Nothing is outstanding.
		{sender(7, 7, 0), blockAck(7, 0), sender(7, 7, 0)}, {sender(7, 7, 0), blockAck(7, 65535), sender(7, 7, 0)}, {sender(7, 7, 0), blockAck(0, 65535), sender(7, 7, 0)}, {sender(7, 7, 0), blockAck(8, 65535), sender(7, 7, 0)},
		// The sender or the acknowledgment is invalid.
		{sender(7, 12, 1), blockAck(12, 0), sender(7, 12, 1)}, {sender(7, 12, 32), blockAck(12, 0), sender(7, 12, 32)}, {sender(7, 24, 0), blockAck(24, 0), sender(7, 24, 0)}, {sender(-1, 2, 0), blockAck(2, 0), sender(-1, 2, 0)}, {sender(4095, 4096, 0), blockAck(0, 65535), sender(4095, 4096, 0)}, {sender(7, 12, -2), blockAck(12, 0), sender(7, 12, -2)},
		{small, blockAck(7, 65536), small}, {small, blockAck(7, 65537), small}, {small, blockAck(7, -1), small}, {small, blockAck(-1, 65535), small}, {small, blockAck(4096, 65535), small}, {small, blockAck(4096+9, 1), small}, {small, blockAck(9-4096, 1), small}, {small, blockAck(12, math.MinInt), small}, {small, blockAck(math.MaxInt, 0), small}, {small, blockAck(math.MinInt, 0), small},
	} {
		expectAcknowledged(t, c.s, c.a, c.want)
	}
}

// bitmapsOfInterest has no, each single, each but one and all bits, and some others.
func bitmapsOfInterest() []int {
	list := []int{0, windowBits, 0x5555, 0xaaaa, 0x00ff, 0xff00, 0x3c3c}
	for i := range 16 {
		list = append(list, 1<<i, windowBits-1<<i)
	}
	return list
}

// Every start that an acknowledgment may have.
func TestReceiveBlockAckWithAllStarts(t *testing.T) {
	for _, s := range []impl.BlockSender{sender(7, 7, 0), sender(7, 12, 0), sender(7, 12, 20), sender(4094, 2, 6), sender(4095, 0, 0), sender(2040, 2056, 0), sender(4088, 8, 0), sender(4088, 8, 65534), sender(4080, 0, 0x5554), sender(0, 16, 0xaaaa)} {
		for start := range 4096 {
			for _, bitmap := range []int{0, 1, 2, 32768, 0x5555, 65534, 65535} {
				a := blockAck(start, bitmap)
				expectAcknowledged(t, s, a, acknowledgedReference(s, a))
			}
		}
	}
}

func TestReceiveBlockAckOfSomeSenders(t *testing.T) {
	someSenders([]int{9, 4088}, func(s impl.BlockSender) {
		for _, start := range slices.Concat(seqsFrom(s.Start-18, 54), seqsFrom(s.Next-2048, 3), seqsFrom(s.Next+2047, 3)) {
			for _, bitmap := range bitmapsOfInterest() {
				a := blockAck(start, bitmap)
				expectAcknowledged(t, s, a, acknowledgedReference(s, a))
			}
		}
	})
}

// All bitmaps, for windows with and without acknowledged frames.
func TestReceiveBlockAckWithAllBitmaps(t *testing.T) {
	for _, s := range []impl.BlockSender{sender(7, 12, 0), sender(7, 12, 12), sender(4094, 2, 0), sender(4090, 10, 0x4812)} {
		for _, ahead := range []int{-3, 0, 2} {
			for bitmap := range 65536 {
				a := blockAck(onCircle(s.Start+ahead), bitmap)
				expectAcknowledged(t, s, a, acknowledgedReference(s, a))
			}
		}
	}
}

// The first start of which the acknowledgment counts is 2047 before Next; half of the circle away it tells of frames that were never sent.
func TestReceiveBlockAckAtHalfOfTheCircle(t *testing.T) {
	someSenders(startsAround(), func(s impl.BlockSender) {
		for _, distance := range []int{2046, 2047, 2048, 2049, 4095, 4094, 4080, 4079} {
			for _, bitmap := range []int{0, 1, 65535} {
				// Up to 2047 before Next, the bits do not reach the window; the others are not meant for this sender.
				expectAcknowledged(t, s, blockAck(onCircle(s.Next-distance), bitmap), s)
			}
		}
		expectAcknowledged(t, s, blockAck(s.Next, 0), sender(s.Next, s.Next, 0))
	})
}

func TestReceiveBlockAckOfInvalidArguments(t *testing.T) {
	acks := []impl.BlockAck{blockAck(0, 0), blockAck(7, 65535), blockAck(9, 1), blockAck(10, 0), blockAck(2, 0), blockAck(26, 65535), blockAck(4095, 3)}
	for _, s := range someInvalidSenders() {
		for _, a := range slices.Concat(acks, []impl.BlockAck{blockAck(s.Start, 65535), blockAck(s.Next, 0), blockAck(s.Next, -1)}) {
			expectAcknowledged(t, s, a, s)
		}
	}
	for _, s := range []impl.BlockSender{sender(7, 7, 0), sender(7, 12, 4), sender(4094, 2, 0), sender(4095, 0, 0), sender(10, 26, 65534)} {
		for _, a := range []impl.BlockAck{blockAck(s.Start, 0), blockAck(s.Start, 65535), blockAck(s.Next, 0), blockAck(s.Next, 1), blockAck(onCircle(s.Start-5), 65535)} {
			for _, spoilt := range spoiltAcks(a) {
				expectAcknowledged(t, s, spoilt, s)
			}
		}
	}
}

// The same acknowledgment changes nothing a second time, and an older one nothing behind a newer one that tells of all of its frames.
func TestReceiveBlockAckAgain(t *testing.T) {
	random := rand.New(rand.NewPCG(21, 1))
	for range 50000 {
		s := randomSender(random)
		older := blockAck(onCircle(s.Start+random.IntN(24)-8), random.IntN(65536))
		once := impl.ReceiveBlockAck(s, older)
		expectAcknowledged(t, once, older, once)
		steps := random.IntN(8)
		newer := blockAck(onCircle(older.Start+steps), older.Bitmap>>steps|random.IntN(65536))
		last := impl.ReceiveBlockAck(once, newer)
		expectAcknowledged(t, last, older, acknowledgedReference(last, older))
		if acceptable := onCircle(s.Next-newer.Start) <= 2047; acceptable {
			expectAcknowledged(t, last, older, last)
			// In any order, they tell of the same frames.
			if got := impl.ReceiveBlockAck(impl.ReceiveBlockAck(s, newer), older); got != last {
				t.Errorf("%v and %v lead %v to %v, in reverse to %v", older, newer, s, last, got)
			}
		}
	}
}

// randomSender is a valid sender, often around the end of the circle.
func randomSender(random *rand.Rand) impl.BlockSender {
	start := random.IntN(4096)
	if random.IntN(2) == 0 {
		start = onCircle(4080 + random.IntN(24))
	}
	size := random.IntN(17)
	return sender(start, onCircle(start+size), random.IntN(1<<size)&^1)
}

func TestReceiveBlockAckOfRandomSenders(t *testing.T) {
	random := rand.New(rand.NewPCG(21, 2))
	moved := 0
	for range 200000 {
		s := randomSender(random)
		a := blockAck(onCircle(s.Start+random.IntN(40)-20), random.IntN(65536)|random.IntN(65536))
		want := acknowledgedReference(s, a)
		if onCircle(want.Start-s.Start) > 1 {
			moved++
		}
		expectAcknowledged(t, s, a, want)
		expectValidSender(t, want, true)
	}
	if moved < 20000 {
		t.Errorf("Start moved by several numbers %d times only", moved)
	}
}

func TestGiveUp(t *testing.T) {
	small, full := sender(7, 12, 0), sender(10, 26, 0)
	for _, c := range []struct {
		s    impl.BlockSender
		seq  int
		want impl.BlockSender
	}{
		{small, 7, sender(8, 12, 0)}, {small, 8, sender(7, 12, 2)}, {small, 9, sender(7, 12, 4)}, {small, 10, sender(7, 12, 8)}, {small, 11, sender(7, 12, 16)},
		{small, 6, small}, {small, 12, small}, {small, 13, small}, {small, 0, small}, {small, 4095, small}, {small, -1, small}, {small, 4096, small}, {small, 7 + 4096, small}, {small, 7 - 4096, small}, {small, 1<<32 + 7, small}, {small, math.MinInt, small}, {small, math.MaxInt, small},
		// The frame is acknowledged already.
		{sender(7, 12, 4), 9, sender(7, 12, 4)}, {sender(7, 12, 30), 11, sender(7, 12, 30)},
		// Start moves over acknowledged frames.
		{sender(7, 12, 2), 7, sender(9, 12, 0)}, {sender(7, 12, 14), 7, sender(11, 12, 0)}, {sender(7, 12, 30), 7, sender(12, 12, 0)}, {sender(7, 12, 20), 7, sender(8, 12, 10)}, {sender(7, 12, 20), 8, sender(7, 12, 22)}, {sender(7, 12, 22), 7, sender(10, 12, 2)},
		{sender(4094, 2, 2), 4094, sender(0, 2, 0)}, {sender(4094, 2, 6), 4094, sender(1, 2, 0)}, {sender(4094, 2, 14), 4094, sender(2, 2, 0)}, {sender(4094, 2, 0), 0, sender(4094, 2, 4)}, {sender(4094, 2, 0), 4095, sender(4094, 2, 2)}, {sender(4095, 0, 0), 4095, sender(0, 0, 0)}, {sender(4095, 1, 2), 4095, sender(1, 1, 0)},
		{full, 10, sender(11, 26, 0)}, {full, 25, sender(10, 26, 32768)}, {full, 26, full}, {full, 9, full}, {sender(10, 26, 65534), 10, sender(26, 26, 0)}, {sender(10, 26, 65534), 25, sender(10, 26, 65534)},
		{sender(7, 8, 0), 7, sender(8, 8, 0)}, {sender(7, 7, 0), 7, sender(7, 7, 0)}, {sender(7, 7, 0), 6, sender(7, 7, 0)}, {impl.BlockSender{}, 0, impl.BlockSender{}},
		// The sender is invalid.
		{sender(7, 12, 1), 8, sender(7, 12, 1)}, {sender(7, 12, 32), 7, sender(7, 12, 32)}, {sender(7, 12, -2), 7, sender(7, 12, -2)}, {sender(7, 24, 0), 7, sender(7, 24, 0)}, {sender(-1, 2, 0), -1, sender(-1, 2, 0)}, {sender(-1, 2, 0), 1, sender(-1, 2, 0)}, {sender(4095, 4096, 0), 4095, sender(4095, 4096, 0)}, {sender(8, 7, 0), 8, sender(8, 7, 0)},
	} {
		expectGivenUp(t, c.s, c.seq, c.want)
	}
}

func TestGiveUpOfSomeSenders(t *testing.T) {
	someSenders(startsAround(), func(s impl.BlockSender) {
		for _, seq := range slices.Concat(seqsFrom(s.Start-3, 24), notSeqs) {
			expectGivenUp(t, s, seq, givenUpReference(s, seq))
		}
	})
	for _, s := range []impl.BlockSender{sender(7, 12, 4), sender(4094, 2, 6), sender(4088, 8, 0)} {
		for seq := -10; seq < 4110; seq++ {
			expectGivenUp(t, s, seq, givenUpReference(s, seq))
		}
	}
	for _, s := range someInvalidSenders() {
		for _, seq := range slices.Concat(seqsFrom(s.Start-1, 19), []int{s.Start, s.Next, s.Next - 1, -1, 4096, math.MinInt, math.MaxInt}) {
			expectGivenUp(t, s, seq, s)
		}
	}
}

// To give up a frame is the same as an acknowledgment of this frame alone.
func TestGiveUpIsAnAcknowledgmentOfOneFrame(t *testing.T) {
	someSenders(startsAround(), func(s impl.BlockSender) {
		for i := range onCircle(s.Next - s.Start) {
			want := impl.ReceiveBlockAck(s, blockAck(s.Start, 1<<i))
			expectGivenUp(t, s, onCircle(s.Start+i), want)
		}
	})
}

func TestIsDone(t *testing.T) {
	for seq := range 4096 {
		expectDone(t, impl.NewBlockSender(seq), true)
		expectDone(t, sender(seq, onCircle(seq+1), 0), false)
	}
	someSenders(startsAround(), func(s impl.BlockSender) {
		expectDone(t, s, s.Start == s.Next)
		expectDone(t, impl.ReceiveBlockAck(s, blockAck(s.Next, 0)), true)
	})
	for _, s := range slices.Concat(someInvalidSenders(), []impl.BlockSender{sender(7, 7, 1), sender(7, 7, 2), sender(7, 8, 1), sender(7, 10, 7), sender(7, 10, 8), sender(-1, -1, 0), sender(4096, 4096, 0), sender(7, 6, 0), sender(10, 27, 131071), sender(7, 7, -1)}) {
		expectDone(t, s, false)
	}
}

// Six frames are finished in every order, each of them acknowledged or given up.
func TestIsDoneAfterEveryOrder(t *testing.T) {
	const count = 6
	var finish func(s impl.BlockSender, first int, left []int)
	finish = func(s impl.BlockSender, first int, left []int) {
		expectDone(t, s, len(left) == 0)
		for i, n := range left {
			seq := onCircle(first + n)
			next := impl.GiveUp(s, seq)
			expectAcknowledged(t, s, blockAck(onCircle(first-4), 1<<(n+4)), next)
			finish(next, first, slices.Delete(slices.Clone(left), i, i+1))
		}
	}
	for _, first := range []int{0, 70, 4091, 4095} {
		s := impl.NewBlockSender(first)
		for range count {
			s, _, _ = impl.SendNext(s)
		}
		finish(s, first, upTo(count))
	}
}

// courseOfFrames follows a sender with frames that are counted beyond the end of the circle.
type courseOfFrames struct {
	sender impl.BlockSender
	// first is the number of the frame that is counted as 0.
	first int
	// finished has an element for each frame that was sent; true if it was acknowledged or given up.
	finished []bool
}

func newCourse(first int) *courseOfFrames {
	return &courseOfFrames{sender: impl.NewBlockSender(first), first: first}
}

// oldest is the count of the oldest outstanding frame, or of the next new one if there is none.
func (c *courseOfFrames) oldest() int {
	for i := max(0, len(c.finished)-20); i < len(c.finished); i++ {
		if !c.finished[i] {
			return i
		}
	}
	return len(c.finished)
}

func (c *courseOfFrames) seq(count int) int {
	return onCircle(c.first + count)
}

func (c *courseOfFrames) finish(count int) {
	if count >= 0 && count < len(c.finished) {
		c.finished[count] = true
	}
}

func (c *courseOfFrames) send(t *testing.T) {
	t.Helper()
	next, seq, ok := impl.SendNext(c.sender)
	room := len(c.finished)-c.oldest() < 16
	if ok != room || room && seq != c.seq(len(c.finished)) || !room && (seq != 0 || next != c.sender) {
		t.Fatalf("SendNext(%v) is %v, %d, %v behind %d frames from %d on", c.sender, next, seq, ok, len(c.finished), c.first)
	}
	if ok {
		c.finished = append(c.finished, false)
	}
	c.sender = next
}

// acknowledge receives an acknowledgment whose start is the frame with this count.
func (c *courseOfFrames) acknowledge(start int, bitmap int) {
	c.sender = impl.ReceiveBlockAck(c.sender, blockAck(c.seq(start), bitmap))
	if start > len(c.finished) || start < len(c.finished)-2047 {
		return
	}
	for count := max(0, len(c.finished)-20); count < start; count++ {
		c.finish(count)
	}
	for i := range 16 {
		if bitmap>>i%2 == 1 {
			c.finish(start + i)
		}
	}
}

func (c *courseOfFrames) giveUp(count int) {
	c.sender = impl.GiveUp(c.sender, c.seq(count))
	c.finish(count)
}

func (c *courseOfFrames) check(t *testing.T) {
	t.Helper()
	want := []int{}
	for count := c.oldest(); count < len(c.finished); count++ {
		if !c.finished[count] {
			want = append(want, c.seq(count))
		}
	}
	if len(c.finished)-c.oldest() > 16 {
		t.Fatalf("the window of %v holds %d frames", c.sender, len(c.finished)-c.oldest())
	}
	if c.sender != senderOf(c.seq(len(c.finished)), want) {
		t.Fatalf("the sender is %v, but %v are outstanding before %d", c.sender, want, c.seq(len(c.finished)))
	}
	expectValidSender(t, c.sender, true)
	expectOutstanding(t, c.sender, want...)
	expectDone(t, c.sender, len(want) == 0)
}

// Promise 21: whatever happens, the outstanding frames are those that were sent and neither acknowledged nor given up.
func TestOutstandingFramesAreThoseNotAcknowledged(t *testing.T) {
	random := rand.New(rand.NewPCG(21, 3))
	longest := 0
	for run := range 40 {
		c := newCourse(random.IntN(4096))
		for range 4000 {
			c.step(t, random, run%4)
			c.check(t)
		}
		longest = max(longest, len(c.finished))
	}
	if longest < 4096 {
		t.Errorf("at most %d frames were sent, not once around the circle", longest)
	}
}

// step does something at random; in some runs more is sent than finished, so that the window is often full.
func (c *courseOfFrames) step(t *testing.T, random *rand.Rand, kind int) {
	t.Helper()
	count := len(c.finished)
	for range random.IntN(3) + kind {
		c.send(t)
	}
	switch random.IntN(7) {
	case 0:
		c.giveUp(c.oldest() + random.IntN(18) - 1)
	case 1:
		c.acknowledge(c.oldest(), random.IntN(65536))
	case 2:
		c.acknowledge(c.oldest()+random.IntN(20)-2, random.IntN(65536)&random.IntN(65536))
	case 3:
		c.acknowledge(c.oldest()-random.IntN(20), 1<<random.IntN(16))
	case 4:
		// Very old acknowledgments, and those of frames that were never sent.
		c.acknowledge(count-2040-random.IntN(16), 65535)
		c.acknowledge(len(c.finished)+1+random.IntN(16), 65535)
	case 5:
		c.acknowledge(count, 0)
	default:
		c.giveUp(c.oldest())
	}
}

// receiverModel counts as the course does; missing is the first frame that did not arrive.
type receiverModel struct {
	arrived map[int]bool
	missing int
}

func (r *receiverModel) hear(count int) {
	r.arrived[count] = true
	for r.arrived[r.missing] {
		r.missing++
	}
}

func (r *receiverModel) bitmap() int {
	bits := 0
	for i := range 16 {
		if r.arrived[r.missing+i] {
			bits |= 1 << i
		}
	}
	return bits
}

// Over a channel that loses frames and acknowledgments, and delivers some of these late and again, a frame stays outstanding
// until the receiver has it, and all frames arrive.
func TestFramesStayOutstandingUntilTheyArrive(t *testing.T) {
	random := rand.New(rand.NewPCG(21, 4))
	for range 30 {
		c, r := newCourse(4000+random.IntN(96)), &receiverModel{arrived: map[int]bool{}}
		delayed := [][2]int{{0, 0}}
		for round := 0; len(c.finished) < 300 || !impl.IsDone(c.sender); round++ {
			if round > 5000 {
				t.Fatalf("after %d rounds, %v has not finished", round, c.sender)
			}
			for range random.IntN(5) {
				if len(c.finished) < 300 {
					c.send(t)
				}
			}
			for _, seq := range impl.Outstanding(c.sender) {
				if count := c.oldest() + onCircle(seq-c.seq(c.oldest())); random.IntN(2) == 0 {
					r.hear(count)
				}
			}
			delayed = append(delayed, [2]int{r.missing, r.bitmap()})
			if ack := delayed[max(0, len(delayed)-1-random.IntN(4))]; random.IntN(3) > 0 {
				c.acknowledge(ack[0], ack[1])
			}
			c.check(t)
			for count, finished := range c.finished {
				if finished && !r.arrived[count] {
					t.Fatalf("%v takes the frame %d, which did not arrive, for acknowledged", c.sender, c.seq(count))
				}
			}
		}
	}
}

// A list of outstanding frames shares no memory with another one, also not with that to an equal call.
func TestOutstandingFramesShareNoMemory(t *testing.T) {
	someSenders([]int{9, 4090}, func(s impl.BlockSender) {
		answer, other := impl.Outstanding(s), impl.Outstanding(s)
		want := slices.Clone(answer)
		spoilInts(other)
		if !slices.Equal(answer, want) {
			t.Errorf("two answers of Outstanding(%v) share memory", s)
		}
		spoilInts(answer)
		expectOutstanding(t, s, want...)
	})
	answer := impl.Outstanding(sender(-1, 0, 0))
	spoilInts(append(answer, 1, 2, 3))
	expectOutstanding(t, sender(-1, 0, 0))
}

// The calls between two equal calls change nothing, and do not change what was returned.
func TestBlockSendersKeepNoState(t *testing.T) {
	senders, lists := []impl.BlockSender{}, [][]int{}
	visit := func(s impl.BlockSender) {
		lists = append(lists, impl.Outstanding(s))
		next, _, _ := impl.SendNext(s)
		senders = append(senders, next, impl.GiveUp(s, s.Start), impl.NewBlockSender(s.Next), impl.ReceiveBlockAck(s, blockAck(s.Start, 0x1234)))
	}
	for range 2 {
		someSenders([]int{9, 4090}, visit)
		for _, s := range someInvalidSenders() {
			visit(s)
		}
	}
	half, middle := len(senders)/2, len(lists)/2
	if !slices.Equal(senders[:half], senders[half:]) || !slices.EqualFunc(lists[:middle], lists[middle:], slices.Equal) {
		t.Error("answers differ from those to the same calls before")
	}
	i := 0
	someSenders([]int{9, 4090}, func(s impl.BlockSender) {
		if !slices.Equal(lists[i], outstandingReference(s)) {
			t.Errorf("the answer of Outstanding(%v) was changed by later calls: %v", s, lists[i])
		}
		i++
	})
}
