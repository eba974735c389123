package tests

import (
	"cmp"
	"math"
	"math/rand/v2"
	"slices"
	"testing"

	"loop.example/g00511/impl"
)

// The lowest bits of some of the numbers that are no thresholds are those of one.
var (
	notThresholds = []int{0, -1, 101, -2, -5, -100, 102, 127, 128, 256, 261, 1 << 32, 1<<32 + 5, -1<<32 + 5, math.MinInt, math.MinInt + 5, math.MaxInt - 1, math.MaxInt}
	// anySlots are slots for now and Started, which are not limited.
	anySlots = []int{0, 1, 5, 49, 50, 51, -1, -49, -50, -51, 1 << 32, mostUntil, mostUntil + 1, math.MinInt, math.MinInt + 1, math.MinInt + 49, math.MinInt + 50, math.MinInt + 51, math.MaxInt - 51, math.MaxInt - 50, math.MaxInt - 49, math.MaxInt - 1, math.MaxInt}
)

// bodyOf returns bytes no two neighbours of which are equal.
func bodyOf(length int) []byte {
	body := make([]byte, length)
	for i := range body {
		body[i] = byte(i*7 + i/256 + 1)
	}
	return body
}

// piecesOf cuts the body into pieces of these lengths.
func piecesOf(body []byte, lengths ...int) [][]byte {
	pieces := [][]byte{}
	for _, length := range lengths {
		pieces = append(pieces, body[:length])
		body = body[length:]
	}
	return pieces
}

// carried returns the frames with the fields of f that carry the pieces.
func carried(f impl.MacFrame, pieces [][]byte) []impl.MacFrame {
	list := []impl.MacFrame{}
	for i, piece := range pieces {
		n := fieldsOf(f)
		n[4], n[5] = i, n[5]/2*2
		if i != len(pieces)-1 {
			n[5]++
		}
		list = append(list, frameOfFields(n, piece))
	}
	return list
}

func piecesReference(body []byte, threshold int) [][]byte {
	if !slices.Contains(upTo(101)[1:], threshold) {
		return nil
	}
	pieces := slices.Collect(slices.Chunk(body, threshold))
	switch {
	case len(pieces) == 0:
		return [][]byte{nil}
	case len(pieces) > 16:
		return nil
	}
	return pieces
}

// countReference tries the numbers of fragments one after the other.
func countReference(bytes int, threshold int) int {
	if !slices.Contains(upTo(101)[1:], threshold) || bytes < 0 {
		return 0
	}
	for count := 1; count < 17; count++ {
		if count*threshold >= bytes {
			return count
		}
	}
	return 0
}

func alikeFrames(a impl.MacFrame, b impl.MacFrame) bool {
	return fieldsOf(a) == fieldsOf(b) && slices.Equal(a.Body, b.Body)
}

func reassemblyOf(from int, seq int, next int, body string, started int) impl.Reassembly {
	return impl.Reassembly{From: from, Seq: seq, Next: next, Body: []byte(body), Started: started}
}

// fragmentOf returns a data frame to station 9.
func fragmentOf(from int, seq int, fragment int, more bool, body string) impl.MacFrame {
	return impl.MacFrame{Kind: impl.FrameData, From: from, To: 9, Seq: seq, Fragment: fragment, More: more, Duration: 4, Body: []byte(body)}
}

func alikeReassembly(a impl.Reassembly, b impl.Reassembly) bool {
	return [4]int{a.From, a.Seq, a.Next, a.Started} == [4]int{b.From, b.Seq, b.Next, b.Started} && slices.Equal(a.Body, b.Body)
}

func alikeReassemblies(a []impl.Reassembly, b []impl.Reassembly) bool {
	return slices.EqualFunc(a, b, alikeReassembly)
}

// chosen returns the reassemblies at these indices.
func chosen(list []impl.Reassembly, indices ...int) []impl.Reassembly {
	some := []impl.Reassembly{}
	for _, i := range indices {
		some = append(some, list[i])
	}
	return some
}

func addedReference(list []impl.Reassembly, f impl.MacFrame, now int) ([]impl.Reassembly, []byte, bool) {
	place := slices.IndexFunc(list, func(r impl.Reassembly) bool { return r.From == f.From })
	rest := list
	if place >= 0 {
		rest = slices.Concat(list[:place], list[place+1:])
	}
	if f.Fragment == 0 && f.More {
		return slices.Concat(rest, []impl.Reassembly{{From: f.From, Seq: f.Seq, Next: 1, Body: f.Body, Started: now}}), nil, false
	}
	if f.Fragment == 0 {
		return rest, f.Body, true
	}
	if f.Fragment < 0 || place < 0 || list[place].Seq != f.Seq || list[place].Next != f.Fragment {
		return list, nil, false
	}
	changed := list[place]
	changed.Body = slices.Concat(changed.Body, f.Body)
	switch {
	case len(changed.Body) > 100:
		return list, nil, false
	case !f.More:
		return rest, changed.Body, true
	}
	changed.Next++
	return slices.Concat(list[:place], []impl.Reassembly{changed}, list[place+1:]), nil, false
}

// unexpiredReference leaves out the reassemblies that now is beyond; the sum wraps around.
func unexpiredReference(list []impl.Reassembly, now int) []impl.Reassembly {
	return slices.DeleteFunc(slices.Clone(list), func(r impl.Reassembly) bool {
		return cmp.Compare(now, int(uint64(r.Started)+50)) == 1
	})
}

// carriers are frames with every field in its range, with Fragment, More and Retry set and not set, and with each field alone out of range.
func carriers() []impl.MacFrame {
	plain := impl.MacFrame{Kind: impl.FrameData, From: 1, To: 2, Seq: 7, Duration: 5}
	list := []impl.MacFrame{{}, plain}
	for i := range frameKinds {
		for flags := range 4 {
			n := [7]int{i + 1, 15 - i, []int{0, 63}[flags/2], seqs[i%len(seqs)], fragments[flags], flags, durations[i%len(durations)]}
			list = append(list, frameOfFields(n, nil))
		}
	}
	return append(list, spoiltFrames(plain)...)
}

func expectFragments(t *testing.T, f impl.MacFrame, threshold int, pieces [][]byte) {
	t.Helper()
	if got, want := impl.Fragments(f, threshold), carried(f, pieces); !slices.EqualFunc(got, want, alikeFrames) {
		t.Errorf("Fragments(%v, %d) is %v, not %v", f, threshold, got, want)
	}
}

func expectFragmentCount(t *testing.T, bytes int, threshold int, want int) {
	t.Helper()
	if got := impl.FragmentCount(bytes, threshold); got != want {
		t.Errorf("FragmentCount(%d, %d) is %d, not %d", bytes, threshold, got, want)
	}
}

func expectStarted(t *testing.T, f impl.MacFrame, now int, want impl.Reassembly) {
	t.Helper()
	if got := impl.StartReassembly(f, now); !alikeReassembly(got, want) {
		t.Errorf("StartReassembly(%v, %d) is %v, not %v", f, now, got, want)
	}
}

func expectAdded(t *testing.T, list []impl.Reassembly, f impl.MacFrame, now int, want []impl.Reassembly, body []byte, done bool) {
	t.Helper()
	if got, gotBody, gotDone := impl.AddFragment(list, f, now); !alikeReassemblies(got, want) || !slices.Equal(gotBody, body) || gotDone != done {
		t.Errorf("AddFragment(%v, %v, %d) is %v, %v, %v, not %v, %v, %v", list, f, now, got, gotBody, gotDone, want, body, done)
	}
}

func expectAddedLikeReference(t *testing.T, list []impl.Reassembly, f impl.MacFrame, now int) {
	t.Helper()
	want, body, done := addedReference(list, f, now)
	expectAdded(t, list, f, now, want, body, done)
}

// expectIgnored checks that the frame leaves the list as it is and completes nothing.
func expectIgnored(t *testing.T, list []impl.Reassembly, f impl.MacFrame) {
	t.Helper()
	for _, now := range []int{0, 5, -1, math.MinInt, math.MaxInt} {
		expectAdded(t, list, f, now, list, nil, false)
	}
}

func expectUnexpired(t *testing.T, list []impl.Reassembly, now int, want []impl.Reassembly) {
	t.Helper()
	if got := impl.ExpireReassemblies(list, now); !alikeReassemblies(got, want) {
		t.Errorf("ExpireReassemblies(%v, %d) is %v, not %v", list, now, got, want)
	}
}

func expectEqualReassemblies(t *testing.T, a []impl.Reassembly, b []impl.Reassembly, want bool) {
	t.Helper()
	if impl.EqualReassemblies(a, b) != want || impl.EqualReassemblies(b, a) != want {
		t.Errorf("EqualReassemblies(%v, %v) is not %v in both orders", a, b, want)
	}
}

func TestConstantsOfFragmentation(t *testing.T) {
	if impl.MaxThreshold != 100 || impl.ReassemblySlots != 50 || impl.MaxFragment != 15 || impl.MaxBody != 100 {
		t.Error(impl.MaxThreshold, impl.ReassemblySlots, impl.MaxFragment, impl.MaxBody)
	}
}

// fixedPieces are the lengths of the pieces of bodies; none means that there are no fragments.
var fixedPieces = []struct {
	bytes, threshold int
	lengths          []int
}{
	{0, 1, []int{0}}, {0, 2, []int{0}}, {0, 50, []int{0}}, {0, 99, []int{0}}, {0, 100, []int{0}},
	{1, 1, []int{1}}, {1, 2, []int{1}}, {1, 99, []int{1}}, {1, 100, []int{1}},
	{5, 2, []int{2, 2, 1}}, {4, 2, []int{2, 2}}, {3, 2, []int{2, 1}}, {2, 2, []int{2}}, {6, 3, []int{3, 3}}, {5, 3, []int{3, 2}}, {7, 3, []int{3, 3, 1}}, {5, 4, []int{4, 1}}, {5, 5, []int{5}}, {5, 6, []int{5}},
	{99, 99, []int{99}}, {100, 99, []int{99, 1}}, {98, 99, []int{98}}, {99, 100, []int{99}}, {100, 100, []int{100}}, {101, 100, []int{100, 1}}, {101, 99, []int{99, 2}}, {199, 100, []int{100, 99}}, {200, 100, []int{100, 100}}, {201, 100, []int{100, 100, 1}},
	{100, 7, []int{7, 7, 7, 7, 7, 7, 7, 7, 7, 7, 7, 7, 7, 7, 2}}, {100, 50, []int{50, 50}}, {99, 50, []int{50, 49}}, {101, 50, []int{50, 50, 1}}, {100, 34, []int{34, 34, 32}},
	{15, 1, []int{1, 1, 1, 1, 1, 1, 1, 1, 1, 1, 1, 1, 1, 1, 1}}, {16, 1, []int{1, 1, 1, 1, 1, 1, 1, 1, 1, 1, 1, 1, 1, 1, 1, 1}}, {17, 1, nil}, {18, 1, nil},
	{30, 2, []int{2, 2, 2, 2, 2, 2, 2, 2, 2, 2, 2, 2, 2, 2, 2}}, {31, 2, []int{2, 2, 2, 2, 2, 2, 2, 2, 2, 2, 2, 2, 2, 2, 2, 1}}, {32, 2, []int{2, 2, 2, 2, 2, 2, 2, 2, 2, 2, 2, 2, 2, 2, 2, 2}}, {33, 2, nil}, {34, 2, nil},
	{96, 6, []int{6, 6, 6, 6, 6, 6, 6, 6, 6, 6, 6, 6, 6, 6, 6, 6}}, {97, 6, nil}, {100, 6, nil}, {100, 1, nil}, {1000, 1, nil}, {65536, 100, nil},
	{1500, 100, []int{100, 100, 100, 100, 100, 100, 100, 100, 100, 100, 100, 100, 100, 100, 100}}, {1501, 100, []int{100, 100, 100, 100, 100, 100, 100, 100, 100, 100, 100, 100, 100, 100, 100, 1}},
	{1599, 100, []int{100, 100, 100, 100, 100, 100, 100, 100, 100, 100, 100, 100, 100, 100, 100, 99}}, {1600, 100, []int{100, 100, 100, 100, 100, 100, 100, 100, 100, 100, 100, 100, 100, 100, 100, 100}}, {1601, 100, nil},
	{1584, 99, []int{99, 99, 99, 99, 99, 99, 99, 99, 99, 99, 99, 99, 99, 99, 99, 99}}, {1585, 99, nil},
}

func TestFragmentsOfFixedPieces(t *testing.T) {
	for _, c := range fixedPieces {
		f := impl.MacFrame{Kind: impl.FrameData, From: 1, To: 2, Seq: 7, Body: bodyOf(c.bytes)}
		expectFragments(t, f, c.threshold, piecesOf(f.Body, c.lengths...))
		expectFragmentCount(t, c.bytes, c.threshold, len(c.lengths))
	}
}

// The document's example, with every field of every fragment.
func TestFragmentsOfFiveBytes(t *testing.T) {
	f := impl.MacFrame{Kind: 6, From: 3, To: 63, Seq: 4095, Fragment: 9, More: true, Retry: true, Duration: 1000, Body: []byte("hello")}
	want := []impl.MacFrame{
		{Kind: 6, From: 3, To: 63, Seq: 4095, Fragment: 0, More: true, Retry: true, Duration: 1000, Body: []byte("he")},
		{Kind: 6, From: 3, To: 63, Seq: 4095, Fragment: 1, More: true, Retry: true, Duration: 1000, Body: []byte("ll")},
		{Kind: 6, From: 3, To: 63, Seq: 4095, Fragment: 2, More: false, Retry: true, Duration: 1000, Body: []byte("o")},
	}
	if got := impl.Fragments(f, 2); !slices.EqualFunc(got, want, sameFrame) {
		t.Errorf("Fragments(%v, 2) is %v, not %v", f, got, want)
	}
	f.Retry, f.More = false, false
	for i := range want {
		want[i].Retry = false
	}
	if got := impl.Fragments(f, 2); !slices.EqualFunc(got, want, sameFrame) {
		t.Errorf("Fragments(%v, 2) is %v, not %v", f, got, want)
	}
	if got := impl.Fragments(f, 5); len(got) != 1 || !sameFrame(got[0], impl.MacFrame{Kind: 6, From: 3, To: 63, Seq: 4095, Duration: 1000, Body: f.Body}) {
		t.Errorf("Fragments(%v, 5) is %v", f, got)
	}
}

// Every field but Fragment, More and Body is that of the frame, valid or not.
func TestFragmentsOfAllFields(t *testing.T) {
	for _, f := range slices.Concat(carriers(), limitFrames()) {
		for _, length := range []int{-1, 0, 1, 4, 5, 6, 80, 81, 100, 101, 1600, 1601} {
			if length >= 0 {
				f.Body = bodyOf(length)
			}
			for _, threshold := range []int{1, 5, 99, 100, 0, 101} {
				expectFragments(t, f, threshold, piecesReference(f.Body, threshold))
			}
		}
	}
}

func TestFragmentsOfAllLengths(t *testing.T) {
	f := impl.MacFrame{Kind: impl.FrameData, From: 1, To: 2, Seq: 7, Fragment: 3, More: true, Duration: 5}
	for threshold := 1; threshold <= 100; threshold++ {
		for length := range 17*threshold + 2 {
			f.Body = bodyOf(length)
			expectFragments(t, f, threshold, piecesReference(f.Body, threshold))
		}
	}
}

// An empty and a nil body yield one fragment.
func TestFragmentsOfNoBody(t *testing.T) {
	for _, f := range carriers() {
		for _, body := range [][]byte{nil, {}, make([]byte, 0, 50), []byte("spare")[:0]} {
			f.Body = body
			for threshold := 1; threshold <= 100; threshold++ {
				expectFragments(t, f, threshold, [][]byte{nil})
			}
			for _, threshold := range notThresholds {
				expectFragments(t, f, threshold, nil)
			}
		}
	}
}

func TestFragmentsOfWrongThresholds(t *testing.T) {
	for _, threshold := range notThresholds {
		for _, length := range []int{0, 1, 2, 5, 16, 17, 99, 100, 101, 1600, 1601, 5000} {
			for _, f := range carriers()[:12] {
				f.Body = bodyOf(length)
				expectFragments(t, f, threshold, nil)
			}
			expectFragmentCount(t, length, threshold, 0)
		}
	}
}

func TestFragmentCount(t *testing.T) {
	for _, c := range [][3]int{
		{5, 2, 3}, {0, 1, 1}, {0, 100, 1}, {-1, 1, 0}, {-1, 100, 0}, {-100, 100, 0}, {-1600, 100, 0}, {1, 1, 1}, {1, 100, 1}, {15, 1, 15}, {16, 1, 16}, {17, 1, 0}, {16, 2, 8}, {17, 2, 9}, {32, 2, 16}, {33, 2, 0},
		{100, 100, 1}, {101, 100, 2}, {1500, 100, 15}, {1501, 100, 16}, {1600, 100, 16}, {1601, 100, 0}, {1584, 99, 16}, {1585, 99, 0},
		{mostUntil, 1, 0}, {mostUntil, 100, 0}, {mostUntil + 1, 100, 0}, {1 << 32, 100, 0}, {1<<32 + 5, 2, 0}, {-1<<32 + 5, 2, 0},
		{math.MinInt, 1, 0}, {math.MinInt, 100, 0}, {math.MinInt + 5, 2, 0}, {math.MaxInt, 1, 0}, {math.MaxInt, 2, 0}, {math.MaxInt, 100, 0}, {math.MaxInt - 1, 100, 0}, {math.MaxInt - 99, 100, 0},
		{5, 0, 0}, {5, -1, 0}, {5, 101, 0}, {0, 0, 0}, {0, -1, 0}, {0, 101, 0}, {-5, -1, 0}, {-1, 0, 0}, {math.MinInt, math.MinInt, 0}, {math.MaxInt, math.MaxInt, 0}, {math.MinInt, math.MaxInt, 0}, {math.MinInt, -1, 0},
	} {
		expectFragmentCount(t, c[0], c[1], c[2])
	}
}

func TestFragmentCountAgainstReference(t *testing.T) {
	far := slices.Concat(notThresholds, byteCounts(), []int{mostUntil - 1, mostUntil, mostUntil + 1, 1 << 62, math.MinInt + 1600, math.MaxInt - 1600})
	for _, threshold := range slices.Concat(upTo(101)[1:], notThresholds) {
		for bytes := -3; bytes <= 1720; bytes++ {
			expectFragmentCount(t, bytes, threshold, countReference(bytes, threshold))
		}
		for _, bytes := range far {
			expectFragmentCount(t, bytes, threshold, countReference(bytes, threshold))
		}
	}
}

func TestFragmentCountIsNumberOfFragments(t *testing.T) {
	for _, threshold := range slices.Concat(upTo(101)[1:], notThresholds) {
		lengths := []int{0, 1, 2, 15, 16, 17, 99, 100, 101, 1599, 1600, 1601, 2000}
		if threshold > 0 && threshold <= 100 {
			for count := 1; count <= 17; count++ {
				lengths = append(lengths, count*threshold-1, count*threshold, count*threshold+1)
			}
		}
		for _, length := range lengths {
			f := impl.MacFrame{Body: make([]byte, length)}
			expectFragmentCount(t, length, threshold, len(impl.Fragments(f, threshold)))
		}
	}
}

func TestStartReassembly(t *testing.T) {
	expectStarted(t, impl.MacFrame{}, 0, reassemblyOf(0, 0, 1, "", 0))
	expectStarted(t, fragmentOf(3, 12, 0, true, "abc"), 40, reassemblyOf(3, 12, 1, "abc", 40))
	for _, now := range anySlots {
		for _, fragment := range slices.Concat(fragments, notFragments) {
			for _, more := range []bool{true, false} {
				expectStarted(t, fragmentOf(3, 12, fragment, more, "abc"), now, reassemblyOf(3, 12, 1, "abc", now))
				expectStarted(t, fragmentOf(15, 4095, fragment, more, ""), now, reassemblyOf(15, 4095, 1, "", now))
			}
		}
		for _, f := range slices.Concat(carriers(), limitFrames()) {
			expectStarted(t, f, now, impl.Reassembly{From: f.From, Seq: f.Seq, Next: 1, Body: f.Body, Started: now})
		}
	}
}

// The first two are of station 1.
var (
	oneReassembly    = reassemblyOf(1, 7, 2, "ab", 5)
	otherReassembly  = reassemblyOf(1, 8, 3, "other", 8)
	secondReassembly = reassemblyOf(2, 7, 2, "xy", 6)
	thirdReassembly  = reassemblyOf(3, 7, 2, "", 7)
)

// fixedLists are lists with the index of the first reassembly of station 1, or -1, which is oneReassembly.
func fixedLists() []struct {
	list  []impl.Reassembly
	place int
} {
	one, other, second, third := oneReassembly, otherReassembly, secondReassembly, thirdReassembly
	return []struct {
		list  []impl.Reassembly
		place int
	}{
		{nil, -1}, {[]impl.Reassembly{}, -1}, {[]impl.Reassembly{second}, -1}, {[]impl.Reassembly{second, third}, -1}, {[]impl.Reassembly{second, third, second}, -1},
		{[]impl.Reassembly{one}, 0}, {[]impl.Reassembly{one, second}, 0}, {[]impl.Reassembly{second, one}, 1}, {[]impl.Reassembly{one, second, third}, 0}, {[]impl.Reassembly{second, one, third}, 1}, {[]impl.Reassembly{second, third, one}, 2},
		{[]impl.Reassembly{one, other}, 0}, {[]impl.Reassembly{one, one}, 0}, {[]impl.Reassembly{one, one, one}, 0}, {[]impl.Reassembly{one, other, second}, 0}, {[]impl.Reassembly{one, second, other}, 0}, {[]impl.Reassembly{second, one, other}, 1}, {[]impl.Reassembly{second, one, third, other, second}, 1},
		{[]impl.Reassembly{second, second, one, one, third}, 2},
	}
}

// withoutPlace returns the list without the element at the place, or all of it for -1.
func withoutPlace(list []impl.Reassembly, place int) []impl.Reassembly {
	if place < 0 {
		return list
	}
	return slices.Concat(list[:place], list[place+1:])
}

// replaced returns the list with r at the place.
func replaced(list []impl.Reassembly, place int, r impl.Reassembly) []impl.Reassembly {
	list = slices.Clone(list)
	list[place] = r
	return list
}

// A first fragment takes the place of the sender's first reassembly, whatever message that belongs to.
func TestAddFirstFragment(t *testing.T) {
	for _, c := range fixedLists() {
		rest := withoutPlace(c.list, c.place)
		for _, seq := range []int{7, 8, 9, 0, 4095, -1} {
			for _, body := range []string{"", "p", "part", string(bodyOf(100)), string(bodyOf(101)), string(bodyOf(1000))} {
				for _, now := range []int{0, 5, 9, -1, math.MinInt, math.MaxInt} {
					started := reassemblyOf(1, seq, 1, body, now)
					expectAdded(t, c.list, fragmentOf(1, seq, 0, true, body), now, slices.Concat(rest, []impl.Reassembly{started}), nil, false)
					expectAdded(t, c.list, fragmentOf(1, seq, 0, false, body), now, rest, []byte(body), true)
				}
			}
		}
	}
}

// A first fragment of another sender leaves the reassemblies of station 1, and a sender need not be a station.
func TestAddFirstFragmentOfOthers(t *testing.T) {
	for _, c := range fixedLists() {
		for _, from := range []int{0, 4, 15, -1, 16, 63, 1<<32 + 1, math.MinInt, math.MinInt + 1, math.MaxInt} {
			started := reassemblyOf(from, 7, 1, "p", 9)
			expectAdded(t, c.list, fragmentOf(from, 7, 0, true, "p"), 9, slices.Concat(c.list, []impl.Reassembly{started}), nil, false)
			expectAdded(t, c.list, fragmentOf(from, 7, 0, false, "p"), 9, c.list, []byte("p"), true)
			list := slices.Concat(c.list, []impl.Reassembly{reassemblyOf(from, 3, 9, "old", 1), oneReassembly})
			expectAdded(t, list, fragmentOf(from, 7, 0, true, "p"), 9, slices.Concat(c.list, []impl.Reassembly{oneReassembly, started}), nil, false)
			expectAdded(t, list, fragmentOf(from, 7, 0, false, "p"), 9, slices.Concat(c.list, []impl.Reassembly{oneReassembly}), []byte("p"), true)
		}
	}
}

// A later fragment continues the first reassembly of its sender at its place.
func TestAddNextFragment(t *testing.T) {
	for _, c := range fixedLists() {
		for _, body := range []string{"", "c", "cd", "cdefg"} {
			next, last := fragmentOf(1, 7, 2, true, body), fragmentOf(1, 7, 2, false, body)
			if c.place < 0 {
				expectIgnored(t, c.list, next)
				expectIgnored(t, c.list, last)
				continue
			}
			for _, now := range []int{0, 5, 9, -1, 1000, math.MinInt, math.MaxInt} {
				expectAdded(t, c.list, next, now, replaced(c.list, c.place, reassemblyOf(1, 7, 3, "ab"+body, 5)), nil, false)
				expectAdded(t, c.list, last, now, withoutPlace(c.list, c.place), []byte("ab"+body), true)
			}
		}
	}
}

// A fragment that is not the one that the first reassembly waits for is ignored, also if a second one waits for it.
func TestAddWrongFragment(t *testing.T) {
	for _, c := range fixedLists() {
		for _, more := range []bool{true, false} {
			for _, fragment := range []int{1, 3, 4, 14, 15, 16, 1<<32 + 2, math.MaxInt - 1, math.MaxInt, -1, -2, -3, -15, math.MinInt, math.MinInt + 2} {
				expectIgnored(t, c.list, fragmentOf(1, 7, fragment, more, "cd"))
				expectIgnored(t, c.list, fragmentOf(1, 7, fragment, more, ""))
			}
			for _, seq := range []int{6, 8, 0, 4095, -7, 4096, 7 + 4096, 1<<32 + 7, math.MinInt + 7, math.MinInt, math.MaxInt} {
				for fragment := 1; fragment < 5; fragment++ {
					expectIgnored(t, c.list, fragmentOf(1, seq, fragment, more, "cd"))
				}
			}
			for _, from := range []int{0, 4, 15, 16, 63, -1, 1<<32 + 1, math.MinInt + 1, math.MaxInt} {
				for fragment := 1; fragment < 5; fragment++ {
					expectIgnored(t, c.list, fragmentOf(from, 7, fragment, more, "cd"))
				}
			}
		}
	}
}

// The first reassembly of a sender counts: a second one is reached only when the first one is gone.
func TestAddFragmentToFirstReassembly(t *testing.T) {
	one, other, second := oneReassembly, otherReassembly, secondReassembly
	fits := fragmentOf(1, 8, 3, false, "wise")
	expectIgnored(t, []impl.Reassembly{one, other}, fits)
	expectIgnored(t, []impl.Reassembly{one, second, other}, fits)
	expectAdded(t, []impl.Reassembly{other, one}, fits, 9, []impl.Reassembly{one}, []byte("otherwise"), true)
	expectAdded(t, []impl.Reassembly{other, second, one}, fits, 9, []impl.Reassembly{second, one}, []byte("otherwise"), true)
	// Only the room for the body, or only Next, differs.
	full, early := reassemblyOf(1, 8, 3, string(bodyOf(97)), 8), reassemblyOf(1, 8, 2, "other", 8)
	for _, first := range []impl.Reassembly{full, early} {
		expectIgnored(t, []impl.Reassembly{first, other}, fits)
		expectIgnored(t, []impl.Reassembly{second, first, other, second}, fits)
		expectAdded(t, []impl.Reassembly{other, first}, fits, 9, []impl.Reassembly{first}, []byte("otherwise"), true)
	}
	list, _, done := impl.AddFragment([]impl.Reassembly{one, other}, fragmentOf(1, 7, 2, false, "cd"), 9)
	if !done {
		t.Errorf("%v does not complete its message", one)
	}
	expectAdded(t, list, fits, 9, nil, []byte("otherwise"), true)
}

// A message has at most 100 bytes when a later fragment is added.
func TestAddFragmentOfLongBodies(t *testing.T) {
	for _, c := range []struct {
		kept, added int
		fits        bool
	}{
		{0, 0, true}, {0, 100, true}, {0, 101, false}, {1, 99, true}, {1, 100, false}, {50, 50, true}, {50, 51, false}, {51, 50, false}, {99, 1, true}, {99, 2, false}, {99, 0, true}, {100, 0, true}, {100, 1, false},
		{101, 0, false}, {101, 1, false}, {1000, 0, false}, {0, 1000, false}, {156, 200, false}, {200, 56, false},
	} {
		whole := bodyOf(c.kept + c.added)
		list := []impl.Reassembly{secondReassembly, reassemblyOf(1, 7, 2, string(whole[:c.kept]), 5), thirdReassembly}
		next, last := fragmentOf(1, 7, 2, true, string(whole[c.kept:])), fragmentOf(1, 7, 2, false, string(whole[c.kept:]))
		if !c.fits {
			expectIgnored(t, list, next)
			expectIgnored(t, list, last)
			continue
		}
		expectAdded(t, list, next, 9, replaced(list, 1, reassemblyOf(1, 7, 3, string(whole), 5)), nil, false)
		expectAdded(t, list, last, 9, withoutPlace(list, 1), whole, true)
	}
}

// Numbers of fragments are not limited; a negative one never continues a message.
func TestAddFragmentOfFarNumbers(t *testing.T) {
	for _, fragment := range []int{1, 2, 14, 15, 16, 17, 255, 1 << 32, mostUntil, math.MaxInt - 1, math.MaxInt} {
		list := []impl.Reassembly{secondReassembly, reassemblyOf(1, 7, fragment, "ab", 5)}
		expectAdded(t, list, fragmentOf(1, 7, fragment, false, "cd"), 9, list[:1], []byte("abcd"), true)
		expectAdded(t, list, fragmentOf(1, 7, fragment, true, "cd"), 9, replaced(list, 1, reassemblyOf(1, 7, fragment+1, "abcd", 5)), nil, false)
		expectIgnored(t, list, fragmentOf(1, 7, -fragment, false, "cd"))
	}
	wrapped, _, _ := impl.AddFragment([]impl.Reassembly{reassemblyOf(1, 7, math.MaxInt, "ab", 5)}, fragmentOf(1, 7, math.MaxInt, true, "cd"), 9)
	if want := []impl.Reassembly{reassemblyOf(1, 7, math.MinInt, "abcd", 5)}; !alikeReassemblies(wrapped, want) {
		t.Errorf("behind the greatest int, the list is %v, not %v", wrapped, want)
	}
	expectIgnored(t, wrapped, fragmentOf(1, 7, math.MinInt, true, "ef"))
	for _, fragment := range []int{-1, -2, -15, -1 << 32, math.MinInt, math.MinInt + 1} {
		list := []impl.Reassembly{reassemblyOf(1, 7, fragment, "ab", 5), secondReassembly}
		expectIgnored(t, list, fragmentOf(1, 7, fragment, false, "cd"))
		expectIgnored(t, list, fragmentOf(1, 7, fragment, true, "cd"))
	}
	// A reassembly that waits for the fragment 0 begins anew, too.
	list := []impl.Reassembly{reassemblyOf(1, 7, 0, "ab", 5), secondReassembly}
	expectAdded(t, list, fragmentOf(1, 7, 0, false, "cd"), 9, list[1:], []byte("cd"), true)
	expectAdded(t, list, fragmentOf(1, 7, 0, true, "cd"), 9, []impl.Reassembly{secondReassembly, reassemblyOf(1, 7, 1, "cd", 9)}, nil, false)
}

// Of the frame, only From, Seq, Fragment, More and Body count, and the frame need not be valid.
func TestAddFragmentOfAllFrames(t *testing.T) {
	for _, f := range slices.Concat(carriers(), limitFrames()) {
		for _, fragment := range []int{f.Fragment, 0, 1, 2} {
			f.Fragment = fragment
			mine := reassemblyOf(f.From, f.Seq, 2, "ab", 5)
			for _, list := range [][]impl.Reassembly{nil, {oneReassembly}, {mine}, {secondReassembly, mine, oneReassembly}, {oneReassembly, mine, mine}} {
				expectAddedLikeReference(t, list, f, 9)
				f.More = !f.More
				expectAddedLikeReference(t, list, f, 9)
			}
		}
	}
}

// Started and now decide nothing: AddFragment also continues a reassembly that ExpireReassemblies would discard.
func TestAddFragmentOfAllSlots(t *testing.T) {
	for _, started := range anySlots {
		for _, now := range anySlots {
			list := []impl.Reassembly{reassemblyOf(1, 7, 2, "ab", started), reassemblyOf(2, 7, 2, "xy", -started)}
			expectAdded(t, list, fragmentOf(1, 7, 2, true, "c"), now, replaced(list, 0, reassemblyOf(1, 7, 3, "abc", started)), nil, false)
			expectAdded(t, list, fragmentOf(1, 7, 2, false, "c"), now, list[1:], []byte("abc"), true)
			expectAdded(t, list, fragmentOf(1, 7, 1, false, "c"), now, list, nil, false)
			expectAdded(t, list, fragmentOf(1, 7, 0, true, "c"), now, []impl.Reassembly{list[1], reassemblyOf(1, 7, 1, "c", now)}, nil, false)
			expectAdded(t, list, fragmentOf(1, 7, 0, false, "c"), now, list[1:], []byte("c"), true)
		}
	}
}

// smallReassemblies are reassemblies that differ in few fields, so that lists of them have many in common with a frame.
func smallReassemblies() []impl.Reassembly {
	list := []impl.Reassembly{}
	for n := range 12 {
		list = append(list, reassemblyOf(1+n%2, 7+n/2%2, 1+n/4, string(bodyOf(n*9%100)), n))
	}
	return list
}

func TestAddFragmentAgainstReference(t *testing.T) {
	small := smallReassemblies()
	for _, indices := range shortLists(upTo(len(small)), 3) {
		list := chosen(small, indices...)
		for from := 1; from < 4; from++ {
			for fragment := -1; fragment < 4; fragment++ {
				seq := 7 + (len(indices)+fragment+from)%2
				expectAddedLikeReference(t, list, fragmentOf(from, seq, fragment, fragment%2 == 0, "end"), 20)
				expectAddedLikeReference(t, list, fragmentOf(from, 15-seq, fragment, fragment%2 != 0, string(bodyOf(46))), 20)
			}
		}
	}
}

// course adds the frames one after the other and returns the list and the bodies of the messages that were completed, in order.
func course(list []impl.Reassembly, frames []impl.MacFrame) ([]impl.Reassembly, []string) {
	bodies := []string{}
	for now, f := range frames {
		left, body, done := impl.AddFragment(list, f, now)
		if done {
			bodies = append(bodies, string(body))
		}
		list = left
	}
	return list, bodies
}

func expectCourse(t *testing.T, list []impl.Reassembly, frames []impl.MacFrame, want []impl.Reassembly, bodies ...string) {
	t.Helper()
	if left, got := course(list, frames); !alikeReassemblies(left, want) || !slices.Equal(got, bodies) {
		t.Errorf("after %v to %v the list is %v with the messages %q, not %v with %q", frames, list, left, got, want, bodies)
	}
}

// cutMessages visits the fragments of messages of all lengths, cut by all thresholds.
func cutMessages(visit func(f impl.MacFrame, frames []impl.MacFrame)) {
	for threshold := 1; threshold <= 100; threshold++ {
		for length := range 101 {
			f := fragmentOf(1, (length*threshold)%4096, 0, false, string(bodyOf(length)))
			if length <= 16*threshold {
				visit(f, impl.Fragments(f, threshold))
			}
		}
	}
}

// listsForSender are lists with at most one reassembly of station 1, and without it.
func listsForSender(visit func(list []impl.Reassembly, rest []impl.Reassembly)) {
	for _, c := range fixedLists() {
		rest := withoutPlace(c.list, c.place)
		if !slices.ContainsFunc(rest, func(r impl.Reassembly) bool { return r.From == 1 }) {
			visit(c.list, rest)
		}
	}
}

// Promise 18: the fragments of a message, added in order, yield its body once, at the last one.
func TestFragmentsArePutTogether(t *testing.T) {
	cutMessages(func(f impl.MacFrame, frames []impl.MacFrame) {
		last := len(frames) - 1
		listsForSender(func(list []impl.Reassembly, rest []impl.Reassembly) {
			begun := list
			if last > 0 {
				bytes := len(frames[0].Body) * last
				begun = slices.Concat(rest, []impl.Reassembly{reassemblyOf(1, f.Seq, last, string(f.Body[:bytes]), 0)})
			}
			expectCourse(t, list, frames[:last], begun)
			expectAdded(t, begun, frames[last], 90, rest, f.Body, true)
			expectCourse(t, list, frames, rest, string(f.Body))
		})
	})
}

// A second reassembly of the sender becomes the first one when a message begins, and keeps it from being completed.
func TestFragmentsBehindSecondReassembly(t *testing.T) {
	f := fragmentOf(1, 9, 0, false, "hello")
	frames := impl.Fragments(f, 2)
	begun := reassemblyOf(1, 9, 1, "he", 0)
	expectCourse(t, []impl.Reassembly{oneReassembly, otherReassembly}, frames, []impl.Reassembly{otherReassembly, begun})
	expectCourse(t, []impl.Reassembly{secondReassembly, oneReassembly, oneReassembly}, frames, []impl.Reassembly{secondReassembly, oneReassembly, begun})
	expectCourse(t, []impl.Reassembly{oneReassembly, oneReassembly}, []impl.MacFrame{f}, []impl.Reassembly{oneReassembly}, "hello")
}

// A message of more than 100 bytes is cut, but only a single fragment of it is completed.
func TestLongMessagesAreNotPutTogether(t *testing.T) {
	for _, length := range []int{101, 102, 150, 200, 1000, 1600} {
		for _, threshold := range []int{7, 50, 99, 100} {
			f := fragmentOf(1, 7, 0, false, string(bodyOf(length)))
			frames := impl.Fragments(f, threshold)
			if (len(frames) > 0) != (length <= 16*threshold) {
				t.Fatalf("Fragments(%v, %d) is %v", f, threshold, frames)
			}
			fit := 100 / threshold
			if len(frames) > 0 {
				expectCourse(t, nil, frames, []impl.Reassembly{reassemblyOf(1, 7, fit, string(f.Body[:fit*threshold]), 0)})
			}
			expectCourse(t, nil, []impl.MacFrame{f}, nil, string(f.Body))
		}
	}
}

// messageCases are messages with 2 to 16 fragments.
func messageCases(visit func(f impl.MacFrame, frames []impl.MacFrame)) {
	for _, length := range []int{2, 3, 5, 12, 15, 16, 33, 99, 100} {
		for threshold := 1; threshold < length; threshold++ {
			f := fragmentOf(1, 7, 0, false, string(bodyOf(length)))
			if frames := impl.Fragments(f, threshold); len(frames) > 0 {
				visit(f, frames)
			}
		}
	}
}

// Without one of its fragments, a message is not completed.
func TestMissingFragments(t *testing.T) {
	messageCases(func(f impl.MacFrame, frames []impl.MacFrame) {
		size := len(frames[0].Body)
		for missing := range frames {
			left := slices.Delete(slices.Clone(frames), missing, missing+1)
			want := []impl.Reassembly{reassemblyOf(1, 7, missing, string(f.Body[:missing*size]), 0)}
			if missing == 0 {
				want = nil
			}
			expectCourse(t, nil, left, want)
			expectCourse(t, []impl.Reassembly{secondReassembly}, left, slices.Concat([]impl.Reassembly{secondReassembly}, want))
			// What is missing may still arrive.
			if missing == len(frames)-1 {
				expectCourse(t, nil, append(left, frames[missing]), nil, string(f.Body))
			}
		}
	})
}

// A fragment that is repeated at once changes nothing, neither the body nor the number of times that the message is completed.
func TestRepeatedFragments(t *testing.T) {
	messageCases(func(f impl.MacFrame, frames []impl.MacFrame) {
		for repeated, again := range frames {
			expectCourse(t, nil, slices.Insert(slices.Clone(frames), repeated+1, again), nil, string(f.Body))
			expectCourse(t, nil, slices.Insert(slices.Clone(frames), repeated, again, again), nil, string(f.Body))
			if repeated > 0 {
				// Later, a repeated fragment changes nothing, either.
				for place := repeated + 1; place <= len(frames); place++ {
					expectCourse(t, nil, slices.Insert(slices.Clone(frames), place, again), nil, string(f.Body))
				}
			}
		}
		// The first fragment begins the message anew.
		for place := 2; place < len(frames); place++ {
			begun := slices.Insert(slices.Clone(frames), place, frames[0])
			expectCourse(t, nil, begun, []impl.Reassembly{reassemblyOf(1, 7, 1, string(frames[0].Body), place)})
			expectCourse(t, nil, slices.Concat(frames[:place], frames), nil, string(f.Body))
		}
		expectCourse(t, nil, slices.Concat(frames, frames), nil, string(f.Body), string(f.Body))
		expectCourse(t, nil, slices.Concat(frames, frames[:1]), []impl.Reassembly{reassemblyOf(1, 7, 1, string(frames[0].Body), len(frames))}, string(f.Body))
	})
}

// If two fragments are exchanged, the message is not completed.
func TestExchangedFragments(t *testing.T) {
	messageCases(func(f impl.MacFrame, frames []impl.MacFrame) {
		for i := range frames {
			for j := range i {
				exchanged := slices.Clone(frames)
				exchanged[i], exchanged[j] = frames[j], frames[i]
				if left, bodies := course(nil, exchanged); len(bodies) > 0 || len(left) > 1 {
					t.Fatalf("%v leads to %v with the messages %q", exchanged, left, bodies)
				}
			}
		}
		backward := slices.Clone(frames)
		slices.Reverse(backward)
		expectCourse(t, nil, backward, []impl.Reassembly{reassemblyOf(1, 7, 1, string(frames[0].Body), len(frames)-1)})
	})
}

// Messages of several senders are completed whatever the order in which their fragments alternate.
func TestFragmentsOfSeveralSenders(t *testing.T) {
	random := rand.New(rand.NewPCG(18, 1))
	for range 500 {
		queues, want := [][]impl.MacFrame{}, map[string]bool{}
		for from := range 1 + random.IntN(6) {
			// All senders use the same number of the message.
			f := fragmentOf(from, 7, 0, false, string(randomPayload(random, 20+random.IntN(81))))
			queues, want[string(f.Body)] = append(queues, impl.Fragments(f, 7+random.IntN(30))), true
		}
		frames := []impl.MacFrame{}
		for len(queues) > 0 {
			i := random.IntN(len(queues))
			frames, queues[i] = append(frames, queues[i][0]), queues[i][1:]
			if len(queues[i]) == 0 {
				queues = slices.Delete(queues, i, i+1)
			}
		}
		left, bodies := course(nil, frames)
		for _, body := range bodies {
			delete(want, body)
		}
		if len(left) > 0 || len(want) > 0 {
			t.Fatalf("%v leads to %v with the messages %q", frames, left, bodies)
		}
	}
}

// Of the same sender, a later fragment of another message changes nothing, and a first one ends the message before.
func TestFragmentsOfOtherMessages(t *testing.T) {
	other := impl.Fragments(fragmentOf(1, 8, 0, false, string(bodyOf(95))), 6)
	messageCases(func(f impl.MacFrame, frames []impl.MacFrame) {
		for place := 1; place < len(frames); place++ {
			for _, between := range other[1:] {
				expectCourse(t, nil, slices.Insert(slices.Clone(frames), place, between), nil, string(f.Body))
			}
			expectCourse(t, nil, slices.Insert(slices.Clone(frames), place, other[0]), []impl.Reassembly{reassemblyOf(1, 8, 1, string(other[0].Body), place)})
			expectCourse(t, nil, slices.Insert(slices.Clone(frames), place, other...), nil, string(bodyOf(95)))
			single := fragmentOf(1, 8, 0, false, "single")
			expectCourse(t, nil, slices.Insert(slices.Clone(frames), place, single), nil, "single")
		}
	})
}

// Promise 18: whatever is lost, repeated, exchanged and discarded, a completed message is one that was sent.
func TestCourseOfFragments(t *testing.T) {
	random := rand.New(rand.NewPCG(18, 2))
	completed := 0
	for range 300 {
		frames, sent := []impl.MacFrame{}, map[string]bool{}
		for number := range 20 {
			f := fragmentOf(random.IntN(4), number, random.IntN(3), random.IntN(2) == 0, string(randomPayload(random, 10+random.IntN(91))))
			frames, sent[string(f.Body)] = append(frames, impl.Fragments(f, 10+random.IntN(90))...), true
		}
		for range random.IntN(40) {
			i := random.IntN(len(frames) - 1)
			switch random.IntN(3) {
			case 0:
				frames = slices.Delete(frames, i, i+1)
			case 1:
				frames = slices.Insert(frames, i, frames[i])
			default:
				frames[i], frames[i+1] = frames[i+1], frames[i]
			}
		}
		list, now := []impl.Reassembly{}, 0
		for _, f := range frames {
			expectAddedLikeReference(t, list, f, now)
			left, body, done := impl.AddFragment(list, f, now)
			if done {
				completed++
			}
			if done && !sent[string(body)] || !done && len(body) > 0 || t.Failed() {
				t.Fatalf("AddFragment(%v, %v, %d) is %v, %v, %v", list, f, now, left, body, done)
			}
			now += random.IntN(20)
			expectUnexpired(t, left, now, unexpiredReference(left, now))
			list = impl.ExpireReassemblies(left, now)
		}
	}
	if completed < 1000 {
		t.Errorf("only %d messages were completed", completed)
	}
}

// startedAt returns reassemblies of different stations that began in these slots.
func startedAt(slots ...int) []impl.Reassembly {
	list := []impl.Reassembly{}
	for i, slot := range slots {
		list = append(list, reassemblyOf(i%16, 100-i, 1+i%5, string(bodyOf(i%7)), slot))
	}
	return list
}

// Fixed values: the reassemblies at the indices left are those that remain.
func TestExpireReassemblies(t *testing.T) {
	for _, c := range []struct {
		started []int
		now     int
		left    []int
	}{
		{[]int{5}, 5, []int{0}}, {[]int{5}, 54, []int{0}}, {[]int{5}, 55, []int{0}}, {[]int{5}, 56, nil}, {[]int{5}, 57, nil}, {[]int{5}, 1000, nil}, {[]int{5}, 4, []int{0}}, {[]int{5}, -1, []int{0}},
		{[]int{0}, 49, []int{0}}, {[]int{0}, 50, []int{0}}, {[]int{0}, 51, nil}, {[]int{0}, math.MinInt, []int{0}}, {[]int{0}, math.MaxInt, nil},
		{[]int{5, 4, 5, 6, 3}, 53, []int{0, 1, 2, 3, 4}}, {[]int{5, 4, 5, 6, 3}, 54, []int{0, 1, 2, 3}}, {[]int{5, 4, 5, 6, 3}, 55, []int{0, 2, 3}}, {[]int{5, 4, 5, 6, 3}, 56, []int{3}}, {[]int{5, 4, 5, 6, 3}, 57, nil},
		{[]int{9, 1, 9, 1, 9}, 55, []int{0, 2, 4}}, {[]int{1, 9, 1, 9, 1}, 55, []int{1, 3}}, {[]int{1, 1, 9}, 55, []int{2}}, {[]int{9, 1, 1}, 55, []int{0}},
		{[]int{-50}, 0, []int{0}}, {[]int{-50}, 1, nil}, {[]int{-51}, 0, nil}, {[]int{-51}, -1, []int{0}}, {[]int{-100}, -50, []int{0}}, {[]int{-100}, -49, nil},
		// The sum stays in the range of the integers.
		{[]int{math.MaxInt - 50}, math.MaxInt, []int{0}}, {[]int{math.MaxInt - 51}, math.MaxInt, nil}, {[]int{math.MaxInt - 51}, math.MaxInt - 1, []int{0}}, {[]int{math.MaxInt - 50}, math.MinInt, []int{0}},
		{[]int{math.MinInt}, math.MinInt, []int{0}}, {[]int{math.MinInt}, math.MinInt + 50, []int{0}}, {[]int{math.MinInt}, math.MinInt + 51, nil}, {[]int{math.MinInt}, 0, nil}, {[]int{math.MinInt}, math.MaxInt, nil},
		// It wraps around.
		{[]int{math.MaxInt - 49}, math.MaxInt, nil}, {[]int{math.MaxInt - 49}, 0, nil}, {[]int{math.MaxInt - 49}, math.MinInt, []int{0}}, {[]int{math.MaxInt - 49}, math.MinInt + 1, nil}, {[]int{math.MaxInt - 49}, math.MaxInt - 49, nil},
		{[]int{math.MaxInt}, math.MinInt + 49, []int{0}}, {[]int{math.MaxInt}, math.MinInt + 50, nil}, {[]int{math.MaxInt}, math.MinInt, []int{0}}, {[]int{math.MaxInt}, math.MaxInt, nil}, {[]int{math.MaxInt}, -1, nil},
		{[]int{math.MaxInt, 0, math.MinInt, math.MaxInt - 50}, 0, []int{1, 3}}, {[]int{math.MaxInt, 0, math.MinInt, math.MaxInt - 50}, math.MinInt + 50, []int{1, 2, 3}}, {[]int{math.MaxInt, 0, math.MinInt, math.MaxInt - 50}, math.MinInt, []int{0, 1, 2, 3}}, {[]int{math.MaxInt, 0, math.MinInt, math.MaxInt - 50}, math.MaxInt, []int{3}},
		{nil, 0, nil}, {nil, math.MinInt, nil}, {nil, math.MaxInt, nil}, {[]int{}, 56, nil},
	} {
		list := startedAt(c.started...)
		expectUnexpired(t, list, c.now, chosen(list, c.left...))
	}
	expectUnexpired(t, nil, 5, nil)
}

func TestExpireReassembliesAgainstReference(t *testing.T) {
	for _, started := range shortLists([]int{0, 5, 55, -50, math.MinInt, math.MaxInt - 50, math.MaxInt - 49, math.MaxInt}, 4) {
		list := startedAt(started...)
		for _, now := range anySlots {
			expectUnexpired(t, list, now, unexpiredReference(list, now))
		}
	}
	for _, started := range anySlots {
		list := startedAt(started, 0, started, 7)
		for more := -53; more <= 53; more++ {
			expectUnexpired(t, list, started+more, unexpiredReference(list, started+more))
		}
	}
}

// Neither the sender, nor the numbers, nor the body decides which reassembly is discarded.
func TestExpireReassembliesLooksAtStartedOnly(t *testing.T) {
	for _, v := range slices.Concat(notStations, notSeqs, notFragments) {
		list := []impl.Reassembly{reassemblyOf(v, 7, 2, "ab", 5), reassemblyOf(1, v, 2, "", 5), reassemblyOf(1, 7, v, string(bodyOf(200)), 5), {Started: 5}}
		expectUnexpired(t, list, 55, list)
		expectUnexpired(t, list, 56, nil)
	}
}

// copied returns a list that shares no memory with the given one.
func copied(list []impl.Reassembly) []impl.Reassembly {
	list = slices.Clone(list)
	for i := range list {
		list[i].Body = slices.Clone(list[i].Body)
	}
	return list
}

func TestEqualReassembliesOfFields(t *testing.T) {
	for _, count := range []int{1, 2, 3, 12} {
		list := smallReassemblies()[12-count:]
		expectEqualReassemblies(t, list, list, true)
		expectEqualReassemblies(t, list, copied(list), true)
		for place := range list {
			for i, change := range []func(*impl.Reassembly){
				func(r *impl.Reassembly) { r.From++ }, func(r *impl.Reassembly) { r.From += 1 << 32 }, func(r *impl.Reassembly) { r.From = math.MinInt }, func(r *impl.Reassembly) { r.Seq-- }, func(r *impl.Reassembly) { r.Seq += 1 << 32 }, func(r *impl.Reassembly) { r.Seq = math.MaxInt },
				func(r *impl.Reassembly) { r.Next++ }, func(r *impl.Reassembly) { r.Next -= 1 << 32 }, func(r *impl.Reassembly) { r.Next = -r.Next }, func(r *impl.Reassembly) { r.Started++ }, func(r *impl.Reassembly) { r.Started += 1 << 32 }, func(r *impl.Reassembly) { r.Started = math.MinInt },
				func(r *impl.Reassembly) { r.Body = append(slices.Clone(r.Body), 0) }, func(r *impl.Reassembly) { r.Body = append([]byte{0}, r.Body...) }, func(r *impl.Reassembly) { r.Body = bodyOf(101) },
				func(r *impl.Reassembly) { r.From, r.Seq = r.Seq, r.From }, func(r *impl.Reassembly) { r.Seq, r.Next = r.Next, r.Seq }, func(r *impl.Reassembly) { r.Next, r.Started = r.Started+20, r.Next },
			} {
				changed := copied(list)
				change(&changed[place])
				if alikeReassemblies(list, changed) {
					t.Fatalf("change %d changes nothing in %v", i, list)
				}
				expectEqualReassemblies(t, list, changed, false)
			}
			for i := range list[place].Body {
				for _, bits := range []byte{1, 128, 255} {
					changed := copied(list)
					changed[place].Body[i] ^= bits
					expectEqualReassemblies(t, list, changed, false)
				}
			}
			if len(list[place].Body) > 0 {
				shorter := copied(list)
				shorter[place].Body = shorter[place].Body[1:]
				expectEqualReassemblies(t, list, shorter, false)
				shorter[place].Body = nil
				expectEqualReassemblies(t, list, shorter, false)
			}
		}
	}
}

func TestEqualReassembliesOfNumbersAndOrder(t *testing.T) {
	list := []impl.Reassembly{oneReassembly, oneReassembly, secondReassembly}
	for _, indices := range [][]int{{}, {0}, {2}, {0, 1}, {1, 2}, {0, 2, 1}, {2, 0, 1}, {0, 0, 0}, {0, 2, 2}, {0, 1, 2, 2}, {0, 0, 1, 2}, {0, 1, 2, 0, 1, 2}} {
		expectEqualReassemblies(t, list, chosen(list, indices...), false)
	}
	zero := []impl.Reassembly{{}}
	expectEqualReassemblies(t, nil, zero, false)
	expectEqualReassemblies(t, zero, make([]impl.Reassembly, 2), false)
	// A nil slice equals an empty one.
	expectEqualReassemblies(t, nil, nil, true)
	expectEqualReassemblies(t, nil, []impl.Reassembly{}, true)
	expectEqualReassemblies(t, nil, make([]impl.Reassembly, 0, 9), true)
	expectEqualReassemblies(t, zero, []impl.Reassembly{{Body: []byte{}}}, true)
	expectEqualReassemblies(t, []impl.Reassembly{{Body: nil}, {From: 1}}, []impl.Reassembly{{Body: make([]byte, 0, 9)}, {From: 1}}, true)
	// Bytes are not moved from one body to another.
	expectEqualReassemblies(t, []impl.Reassembly{{Body: []byte("ab")}, {Body: []byte("c")}}, []impl.Reassembly{{Body: []byte("a")}, {Body: []byte("bc")}}, false)
}

func TestEqualReassembliesAgainstReference(t *testing.T) {
	all := [][]impl.Reassembly{}
	for _, indices := range shortLists([]int{0, 3, 5, 11}, 3) {
		all = append(all, chosen(smallReassemblies(), indices...))
	}
	for _, c := range fixedLists() {
		all = append(all, c.list)
	}
	for _, a := range all {
		for _, b := range all {
			expectEqualReassemblies(t, a, b, alikeReassemblies(a, b))
		}
	}
}

// The functions take a list of any length.
func TestManyReassemblies(t *testing.T) {
	const count = 50000
	list := startedAt(upTo(count)...)
	for i := range list {
		list[i].From = 2 + i
	}
	list[count-2] = oneReassembly
	expectAdded(t, list, fragmentOf(1, 7, 2, false, "cd"), 9, withoutPlace(list, count-2), []byte("abcd"), true)
	expectAdded(t, list, fragmentOf(1, 7, 2, true, "cd"), 9, replaced(list, count-2, reassemblyOf(1, 7, 3, "abcd", 5)), nil, false)
	expectAdded(t, list, fragmentOf(2, 7, 0, false, "cd"), 9, list[1:], []byte("cd"), true)
	expectAdded(t, list, fragmentOf(1, 7, 0, true, "cd"), 9, slices.Concat(withoutPlace(list, count-2), []impl.Reassembly{reassemblyOf(1, 7, 1, "cd", 9)}), nil, false)
	expectAdded(t, list, fragmentOf(0, 7, 1, true, "cd"), 9, list, nil, false)
	expectUnexpired(t, list, 1050, slices.Concat(list[1000:count-2], list[count-1:]))
	expectEqualReassemblies(t, list, copied(list), true)
	expectEqualReassemblies(t, list, list[:count-1], false)
}

// spareReassemblies stand in spare capacity.
func spareReassemblies() []impl.Reassembly {
	return []impl.Reassembly{reassemblyOf(1, 7, 2, "mark", 5), reassemblyOf(4, 9, 1, "", 70), reassemblyOf(2, 7, 2, "k", 6)}
}

// guardedList returns a copy of the list with spare capacity behind all its slices that holds marks.
func guardedList(list []impl.Reassembly) []impl.Reassembly {
	whole := slices.Concat(list, spareReassemblies())
	for i := range whole {
		whole[i].Body = withSpare(whole[i].Body...)
	}
	return whole[:len(list)]
}

// checkGuardedList reports whether the list and all spare capacity are as guardedList made them.
func checkGuardedList(t *testing.T, name string, list []impl.Reassembly, want []impl.Reassembly) {
	t.Helper()
	whole := slices.Concat(want, spareReassemblies())
	for i, r := range list[:len(whole)] {
		if !alikeReassembly(r, whole[i]) {
			t.Fatalf("%s changed reassembly %d of its argument or of its spare capacity: %v", name, i, r)
		}
		checkSpare(t, name, r.Body, whole[i].Body...)
	}
}

// spoilBody overwrites a body, and what stands behind it.
func spoilBody(body []byte) {
	spoil(append(body, 1))
	spoil(body)
}

// spoilList overwrites all the memory of a list.
func spoilList(list []impl.Reassembly) {
	whole := list[:cap(list)]
	for i := range whole {
		spoilBody(whole[i].Body)
		whole[i] = reassemblyOf(99, 99, 99, "spoilt", 99)
	}
}

// fragmentCall answers with a list, and with a body or none.
type fragmentCall struct {
	name string
	call func(list []impl.Reassembly, f impl.MacFrame) ([]impl.Reassembly, []byte)
}

var fragmentCalls = []fragmentCall{
	{"AddFragment", func(list []impl.Reassembly, f impl.MacFrame) ([]impl.Reassembly, []byte) {
		left, body, _ := impl.AddFragment(list, f, 9)
		return left, body
	}},
	{"StartReassembly", func(list []impl.Reassembly, f impl.MacFrame) ([]impl.Reassembly, []byte) {
		return []impl.Reassembly{impl.StartReassembly(f, 9)}, nil
	}},
	{"Fragments", func(list []impl.Reassembly, f impl.MacFrame) ([]impl.Reassembly, []byte) {
		return asReassemblies(impl.Fragments(f, 2)), nil
	}},
	{"ExpireReassemblies", func(list []impl.Reassembly, f impl.MacFrame) ([]impl.Reassembly, []byte) {
		return impl.ExpireReassemblies(list, 5), nil
	}},
	{"ExpireReassemblies", func(list []impl.Reassembly, f impl.MacFrame) ([]impl.Reassembly, []byte) {
		return impl.ExpireReassemblies(list, 56), nil
	}},
}

// asReassemblies returns a list with the bodies of the frames, in the same memory.
func asReassemblies(frames []impl.MacFrame) []impl.Reassembly {
	list := []impl.Reassembly{}
	for _, f := range frames {
		list = append(list, impl.Reassembly{From: f.From, Seq: f.Seq, Next: f.Fragment, Body: f.Body})
	}
	return list
}

// memoryFrames are frames that begin, continue and complete messages of fixedLists, and others.
func memoryFrames() []impl.MacFrame {
	list := []impl.MacFrame{{}}
	for _, more := range []bool{true, false} {
		for _, body := range []string{"", "cd", "cdefghi"} {
			list = append(list, fragmentOf(1, 7, 0, more, body), fragmentOf(1, 7, 2, more, body), fragmentOf(1, 8, 2, more, body), fragmentOf(2, 7, 2, more, body), fragmentOf(5, 7, 0, more, body), fragmentOf(1, 7, -1, more, body))
		}
		list = append(list, fragmentOf(1, 7, 2, more, string(bodyOf(98))), fragmentOf(1, 7, 2, more, string(bodyOf(99))), fragmentOf(3, 7, 2, more, string(bodyOf(100))))
	}
	return list
}

// visitCalls visits each call with each list and each frame.
func visitCalls(visit func(c fragmentCall, list []impl.Reassembly, f impl.MacFrame)) {
	for _, c := range fragmentCalls {
		for _, l := range fixedLists() {
			for _, f := range memoryFrames() {
				visit(c, l.list, f)
			}
		}
	}
}

func TestFunctionsOfFragmentsKeepTheirArguments(t *testing.T) {
	visitCalls(func(c fragmentCall, want []impl.Reassembly, f impl.MacFrame) {
		list, given := guardedList(want), f
		given.Body = withSpare(f.Body...)
		left, body := c.call(list, given)
		spoilList(left)
		spoilBody(body)
		impl.EqualReassemblies(list, list)
		impl.EqualReassemblies(list, nil)
		checkGuardedList(t, c.name, list, want)
		checkSpare(t, c.name, given.Body, f.Body...)
	})
}

func TestAnswersOfFragmentsShareNoMemory(t *testing.T) {
	visitCalls(func(c fragmentCall, given []impl.Reassembly, f impl.MacFrame) {
		list, frame := guardedList(given), f
		frame.Body = withSpare(f.Body...)
		left, body := c.call(list, frame)
		wantLeft, wantBody := copied(left), slices.Clone(body)
		other, otherBody := c.call(list, frame)
		spoilList(other)
		spoilBody(otherBody)
		if !alikeReassemblies(left, wantLeft) || !slices.Equal(body, wantBody) {
			t.Fatalf("two answers of %s of %v and %v share memory: %v, %v", c.name, given, f, left, body)
		}
		spoilList(list)
		spoilBody(frame.Body)
		if !alikeReassemblies(left, wantLeft) || !slices.Equal(body, wantBody) {
			t.Fatalf("the answer of %s of %v and %v shares memory with its arguments: %v, %v", c.name, given, f, left, body)
		}
	})
}

// inOneMemory returns the list and the frame with bodies of the same lengths that are parts of one memory.
func inOneMemory(list []impl.Reassembly, f impl.MacFrame) ([]impl.Reassembly, impl.MacFrame) {
	memory := allBytes()
	list = slices.Clone(list)
	for i := range list {
		list[i].Body = memory[:len(list[i].Body)]
	}
	f.Body = memory[1 : 1+len(f.Body)]
	return list, f
}

// Of one answer, no two bodies share memory, whatever the arguments share, nor does a body reach into the capacity of another one.
func TestBodiesOfFragmentsShareNoMemory(t *testing.T) {
	visitCalls(func(c fragmentCall, given []impl.Reassembly, f impl.MacFrame) {
		given, f = inOneMemory(given, f)
		left, body := c.call(given, f)
		all := append(slices.Clone(left), impl.Reassembly{Body: body})
		want := copied(all)
		for i := range all {
			spoilBody(all[i].Body)
			if !alikeReassemblies(withoutPlace(all, i), withoutPlace(want, i)) {
				t.Fatalf("bodies of %s of %v and %v share memory: %v", c.name, given, f, all)
			}
			copy(all[i].Body, want[i].Body)
		}
	})
}

// Fragments that were changed change neither the frame, nor each other, nor the fragments of another call.
func TestFragmentsMayBeChanged(t *testing.T) {
	f := fragmentOf(1, 7, 0, false, "hello")
	frames, again := impl.Fragments(f, 2), impl.Fragments(f, 2)
	want := carried(f, piecesOf([]byte("hello"), 2, 2, 1))
	for i := range frames {
		spoilBody(frames[i].Body)
		if !slices.EqualFunc(frames[i+1:], want[i+1:], alikeFrames) {
			t.Errorf("fragment %d shares memory with a later one: %v", i, frames)
		}
		frames[i] = impl.MacFrame{Kind: 99}
	}
	if string(f.Body) != "hello" || !slices.EqualFunc(again, want, alikeFrames) {
		t.Errorf("changed fragments changed %v or %v", f, again)
	}
}

// The calls between two equal calls change nothing, neither the arguments nor what was returned.
func TestFragmentsKeepNoState(t *testing.T) {
	type answer struct {
		left []impl.Reassembly
		body []byte
	}
	answers, wants := []answer{}, []answer{}
	for range 2 {
		visitCalls(func(c fragmentCall, list []impl.Reassembly, f impl.MacFrame) {
			left, body := c.call(list, f)
			answers = append(answers, answer{left, body})
			wants = append(wants, answer{copied(left), slices.Clone(body)})
		})
	}
	same := func(a answer, b answer) bool {
		return alikeReassemblies(a.left, b.left) && slices.Equal(a.body, b.body)
	}
	half := len(answers) / 2
	if !slices.EqualFunc(answers, wants, same) || !slices.EqualFunc(answers[:half], answers[half:], same) {
		t.Error("answers were changed by later calls, or differ from those to the same calls before")
	}
}
