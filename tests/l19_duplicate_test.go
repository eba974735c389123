package tests

import (
	"math"
	"math/rand/v2"
	"slices"
	"testing"

	"loop.example/g00511/impl"
)

// seqBits has the bits of a sequence number.
const seqBits = 4095

func seenFrame(from int, category int, seq int, fragment int) impl.SeenFrame {
	return impl.SeenFrame{From: from, Category: category, Seq: seq, Fragment: fragment}
}

// dataFrame returns a data frame with a body to station 9.
func dataFrame(from int, seq int, fragment int, retry bool) impl.MacFrame {
	return impl.MacFrame{Kind: impl.FrameData, From: from, To: 9, Seq: seq, Fragment: fragment, Retry: retry, Duration: 4, Body: []byte("body")}
}

// allSeen has one element of each station and category, all with other numbers.
func allSeen() []impl.SeenFrame {
	list := []impl.SeenFrame{}
	for n := range 64 {
		list = append(list, seenFrame(n%16, n/16, n*65, n*7%16))
	}
	return list
}

// setsOfFields set one field each.
var setsOfFields = []func(*impl.SeenFrame, int){
	func(s *impl.SeenFrame, v int) { s.From = v },
	func(s *impl.SeenFrame, v int) { s.Category = v },
	func(s *impl.SeenFrame, v int) { s.Seq = v },
	func(s *impl.SeenFrame, v int) { s.Fragment = v },
}

// valuesOutOfFields are out of the ranges of the fields.
var valuesOutOfFields = [][]int{notStations, notCategories, notSeqs, notFragments}

// spoiltSeen are copies of the element, each with one field out of range.
func spoiltSeen(s impl.SeenFrame) []impl.SeenFrame {
	list := []impl.SeenFrame{}
	for i, set := range setsOfFields {
		for _, v := range valuesOutOfFields[i] {
			changed := s
			set(&changed, v)
			list = append(list, changed)
		}
	}
	return list
}

// validSeenReference compares every element with every later one.
func validSeenReference(list []impl.SeenFrame) bool {
	for i, s := range list {
		if !slices.Contains(upTo(16), s.From) || !slices.Contains(upTo(4), s.Category) || s.Seq != s.Seq&seqBits || !slices.Contains(upTo(16), s.Fragment) {
			return false
		}
		for _, later := range list[i+1:] {
			if later.From == s.From && later.Category == s.Category {
				return false
			}
		}
	}
	return true
}

// placeReference returns the place of the first element of the station and category; behind the list if there is none.
func placeReference(list []impl.SeenFrame, from int, category int) int {
	for i, s := range list {
		if s.From == from && s.Category == category {
			return i
		}
	}
	return len(list)
}

func duplicateReference(list []impl.SeenFrame, f impl.MacFrame, category int) bool {
	place := placeReference(list, f.From, category)
	if place == len(list) || !f.Retry {
		return false
	}
	return list[place].Seq == f.Seq && list[place].Fragment == f.Fragment
}

func rememberedReference(list []impl.SeenFrame, f impl.MacFrame, category int) []impl.SeenFrame {
	place := placeReference(list, f.From, category)
	later := []impl.SeenFrame{}
	if place < len(list) {
		later = list[place+1:]
	}
	return slices.Concat(list[:place], []impl.SeenFrame{seenFrame(f.From, category, f.Seq, f.Fragment)}, later)
}

func acceptedReference(list []impl.SeenFrame, f impl.MacFrame, category int) ([]impl.SeenFrame, bool) {
	if duplicateReference(list, f, category) {
		return list, false
	}
	return rememberedReference(list, f, category), true
}

// seqDistanceReference counts on in bits, of which those beyond the circle are lost.
func seqDistanceReference(from int, to int) int {
	if from != from&seqBits || to != to&seqBits {
		return -1
	}
	return int(uint64(to)+4096-uint64(from)) & seqBits
}

func expectValidSeen(t *testing.T, list []impl.SeenFrame, want bool) {
	t.Helper()
	if got := impl.AreValidSeen(list); got != want {
		t.Errorf("AreValidSeen(%v) is %v", list, got)
	}
}

func expectDuplicate(t *testing.T, list []impl.SeenFrame, f impl.MacFrame, category int, want bool) {
	t.Helper()
	if got := impl.IsDuplicate(list, f, category); got != want {
		t.Errorf("IsDuplicate(%v, %v, %d) is %v", list, f, category, got)
	}
}

func expectRemembered(t *testing.T, list []impl.SeenFrame, f impl.MacFrame, category int, want ...impl.SeenFrame) {
	t.Helper()
	if got := impl.RememberFrame(list, f, category); !slices.Equal(got, want) {
		t.Errorf("RememberFrame(%v, %v, %d) is %v, not %v", list, f, category, got, want)
	}
}

func expectAccepted(t *testing.T, list []impl.SeenFrame, f impl.MacFrame, category int, ok bool, want ...impl.SeenFrame) {
	t.Helper()
	if got, gotOK := impl.AcceptFrame(list, f, category); !slices.Equal(got, want) || gotOK != ok {
		t.Errorf("AcceptFrame(%v, %v, %d) is %v, %v, not %v, %v", list, f, category, got, gotOK, want, ok)
	}
}

// expectSeenLikeReference checks all functions of lists, and the frame with Retry set and not set.
func expectSeenLikeReference(t *testing.T, list []impl.SeenFrame, f impl.MacFrame, category int) {
	t.Helper()
	for _, retry := range []bool{false, true} {
		f.Retry = retry
		expectDuplicate(t, list, f, category, duplicateReference(list, f, category))
		expectRemembered(t, list, f, category, rememberedReference(list, f, category)...)
		want, ok := acceptedReference(list, f, category)
		expectAccepted(t, list, f, category, ok, want...)
	}
}

func expectNextSeq(t *testing.T, seq int, want int) {
	t.Helper()
	if got := impl.NextSeq(seq); got != want {
		t.Errorf("NextSeq(%d) is %d, not %d", seq, got, want)
	}
}

func expectSeqDistance(t *testing.T, from int, to int, want int) {
	t.Helper()
	if got := impl.SeqDistance(from, to); got != want {
		t.Errorf("SeqDistance(%d, %d) is %d, not %d", from, to, got, want)
	}
}

func expectNewer(t *testing.T, a int, b int, want bool) {
	t.Helper()
	if got := impl.IsNewer(a, b); got != want {
		t.Errorf("IsNewer(%d, %d) is %v", a, b, got)
	}
}

func TestConstantsOfDuplicates(t *testing.T) {
	if impl.MaxStations != 16 || impl.MaxSeq != 4095 || impl.MaxFragment != 15 || impl.Background != 0 || impl.BestEffort != 1 || impl.Video != 2 || impl.Voice != 3 {
		t.Error(impl.MaxStations, impl.MaxSeq, impl.MaxFragment, impl.Background, impl.BestEffort, impl.Video, impl.Voice)
	}
}

func TestAreValidSeenOfFixedLists(t *testing.T) {
	expectValidSeen(t, nil, true)
	expectValidSeen(t, []impl.SeenFrame{}, true)
	// What stands in spare capacity does not count.
	expectValidSeen(t, spoiltSeen(impl.SeenFrame{})[:0], true)
	expectValidSeen(t, []impl.SeenFrame{{}, {}, {From: 16}}[:1], true)
	for _, c := range []struct {
		seen impl.SeenFrame
		want bool
	}{
		{seenFrame(0, 0, 0, 0), true}, {seenFrame(3, 2, 700, 5), true}, {seenFrame(15, 3, 4095, 15), true},
		{seenFrame(-1, 2, 7, 5), false}, {seenFrame(0, 2, 7, 5), true}, {seenFrame(15, 2, 7, 5), true}, {seenFrame(16, 2, 7, 5), false}, {seenFrame(63, 2, 7, 5), false}, {seenFrame(math.MinInt, 2, 7, 5), false}, {seenFrame(math.MaxInt, 2, 7, 5), false},
		{seenFrame(3, -1, 7, 5), false}, {seenFrame(3, 0, 7, 5), true}, {seenFrame(3, 1, 7, 5), true}, {seenFrame(3, 3, 7, 5), true}, {seenFrame(3, 4, 7, 5), false}, {seenFrame(3, math.MinInt, 7, 5), false}, {seenFrame(3, math.MaxInt, 7, 5), false},
		{seenFrame(3, 2, -1, 5), false}, {seenFrame(3, 2, 0, 5), true}, {seenFrame(3, 2, 4095, 5), true}, {seenFrame(3, 2, 4096, 5), false}, {seenFrame(3, 2, math.MinInt, 5), false}, {seenFrame(3, 2, math.MaxInt, 5), false},
		{seenFrame(3, 2, 7, -1), false}, {seenFrame(3, 2, 7, 0), true}, {seenFrame(3, 2, 7, 15), true}, {seenFrame(3, 2, 7, 16), false}, {seenFrame(3, 2, 7, math.MinInt), false}, {seenFrame(3, 2, 7, math.MaxInt), false},
	} {
		expectValidSeen(t, []impl.SeenFrame{c.seen}, c.want)
		for _, others := range [][]impl.SeenFrame{{seenFrame(8, 1, 9, 3)}, {seenFrame(8, 1, 9, 3), seenFrame(9, 1, 9, 3)}, {seenFrame(8, 1, 9, 3), seenFrame(8, 0, 7, 5), seenFrame(9, 2, 0, 0), seenFrame(1, 3, 4095, 15)}} {
			for place := range len(others) + 1 {
				expectValidSeen(t, slices.Insert(slices.Clone(others), place, c.seen), c.want)
			}
		}
	}
}

// Each field alone, at both ends of its range and out of it, in the first, a middle and the last place.
func TestAreValidSeenOfAllFields(t *testing.T) {
	limits := [][2]int{{0, 15}, {0, 3}, {0, 4095}, {0, 15}}
	for _, count := range []int{1, 2, 3, 5, 17} {
		others := []impl.SeenFrame{}
		for i := range count - 1 {
			others = append(others, seenFrame(4+i%8, i/8, i, i%16))
		}
		for _, place := range []int{0, (count - 1) / 2, count - 1} {
			for i, set := range setsOfFields {
				for v := limits[i][0]; v <= limits[i][1]; v++ {
					// Neither station 3 nor category 3 is among the others.
					seen := seenFrame(3, 3, 7, 5)
					set(&seen, v)
					expectValidSeen(t, slices.Insert(slices.Clone(others), place, seen), true)
				}
			}
			for _, seen := range spoiltSeen(seenFrame(3, 3, 7, 5)) {
				expectValidSeen(t, slices.Insert(slices.Clone(others), place, seen), false)
			}
		}
	}
}

// repeatsOf are elements of the same From and Category, whose Seq and Fragment are the same and differ.
func repeatsOf(s impl.SeenFrame) []impl.SeenFrame {
	return []impl.SeenFrame{s, seenFrame(s.From, s.Category, (s.Seq+1)%4096, s.Fragment), seenFrame(s.From, s.Category, s.Seq, (s.Fragment+1)%16), seenFrame(s.From, s.Category, (s.Seq+9)%4096, (s.Fragment+9)%16)}
}

func TestAreValidSeenOfRepeatedSources(t *testing.T) {
	for _, s := range allSeen() {
		for _, repeat := range repeatsOf(s) {
			expectValidSeen(t, []impl.SeenFrame{s, repeat}, false)
		}
	}
	for _, count := range []int{2, 3, 4, 7, 64} {
		// Any two places, the first two, the last two and the first and last ones among them.
		for second := range count {
			for first := range second {
				for _, s := range repeatsOf(allSeen()[first]) {
					list := allSeen()[:count]
					list[second] = s
					expectValidSeen(t, list, false)
				}
			}
		}
	}
}

// The station alone, the category alone and the numbers of a frame may be repeated.
func TestAreValidSeenOfOtherSources(t *testing.T) {
	all := allSeen()
	for count := range len(all) + 1 {
		expectValidSeen(t, all[:count], true)
		expectValidSeen(t, all[len(all)-count:], true)
	}
	for i, s := range all {
		expectValidSeen(t, append(slices.Clone(all), s), false)
		expectValidSeen(t, slices.Insert(slices.Clone(all), 0, s), false)
		for j, other := range all {
			if i != j {
				// The numbers are the same, too.
				expectValidSeen(t, []impl.SeenFrame{s, seenFrame(other.From, other.Category, s.Seq, s.Fragment)}, true)
				expectValidSeen(t, []impl.SeenFrame{s, other, s}, false)
			}
		}
	}
	sameStation := []impl.SeenFrame{seenFrame(3, 0, 7, 5), seenFrame(3, 1, 7, 5), seenFrame(3, 2, 7, 5), seenFrame(3, 3, 7, 5)}
	expectValidSeen(t, sameStation, true)
	expectValidSeen(t, append(sameStation, seenFrame(3, 4, 7, 5)), false)
	expectValidSeen(t, []impl.SeenFrame{seenFrame(1, 2, 7, 5), seenFrame(2, 1, 7, 5)}, true)
	expectValidSeen(t, []impl.SeenFrame{seenFrame(0, 3, 7, 5), seenFrame(3, 0, 7, 5), seenFrame(3, 3, 7, 5), seenFrame(0, 0, 7, 5)}, true)
}

// smallSeen are valid and invalid elements of a few stations and categories.
func smallSeen() []impl.SeenFrame {
	return []impl.SeenFrame{
		seenFrame(1, 2, 7, 0), seenFrame(1, 2, 7, 1), seenFrame(1, 2, 8, 0), seenFrame(1, 3, 7, 0), seenFrame(2, 2, 7, 0), seenFrame(2, 1, 4095, 15),
		seenFrame(1, 4, 7, 0), seenFrame(1, -1, 7, 0), seenFrame(16, 2, 7, 0), seenFrame(-1, 2, 7, 0), seenFrame(1, 2, 4096, 0), seenFrame(1, 2, 7, 16), seenFrame(1, 3, -1, -1),
	}
}

// smallLists visits all lists of up to three small elements.
func smallLists(visit func(list []impl.SeenFrame)) {
	small := smallSeen()
	for _, indices := range shortLists(upTo(len(small)), 3) {
		list := []impl.SeenFrame{}
		for _, i := range indices {
			list = append(list, small[i])
		}
		visit(list)
	}
}

func TestAreValidSeenAgainstReference(t *testing.T) {
	smallLists(func(list []impl.SeenFrame) {
		expectValidSeen(t, list, validSeenReference(list))
	})
	random := rand.New(rand.NewPCG(19, 1))
	valid := 0
	for range 20000 {
		list := []impl.SeenFrame{}
		for range random.IntN(12) {
			list = append(list, seenFrame(random.IntN(16), random.IntN(4), random.IntN(4096), random.IntN(16)))
		}
		if len(list) > 0 && random.IntN(4) == 0 {
			spoilt := spoiltSeen(list[0])
			list[random.IntN(len(list))] = spoilt[random.IntN(len(spoilt))]
		}
		want := validSeenReference(list)
		if want {
			valid++
		}
		expectValidSeen(t, list, want)
	}
	if valid < 5000 || valid > 15000 {
		t.Errorf("%d lists are valid", valid)
	}
}

func TestIsDuplicateOfFixedLists(t *testing.T) {
	one := []impl.SeenFrame{seenFrame(1, 2, 7, 3)}
	for _, c := range []struct {
		list                          []impl.SeenFrame
		from, seq, fragment, category int
		want                          bool
	}{
		{one, 1, 7, 3, 2, true},
		// Seq or Fragment alone differs.
		{one, 1, 6, 3, 2, false}, {one, 1, 8, 3, 2, false}, {one, 1, 4095, 3, 2, false}, {one, 1, 7, 2, 2, false}, {one, 1, 7, 4, 2, false}, {one, 1, 7, 0, 2, false}, {one, 1, 3, 7, 2, false},
		{one, 1, 7 + 4096, 3, 2, false}, {one, 1, 7 - 4096, 3, 2, false}, {one, 1, 7, 3 + 16, 2, false}, {one, 1, 7 + 1<<32, 3, 2, false}, {one, 1, 7, 3 + 1<<32, 2, false}, {one, 1, -7, 3, 2, false}, {one, 1, 7, -3, 2, false},
		// From or the category alone is absent.
		{one, 0, 7, 3, 2, false}, {one, 2, 7, 3, 2, false}, {one, -1, 7, 3, 2, false}, {one, 1 + 1<<32, 7, 3, 2, false}, {one, 63, 7, 3, 2, false},
		{one, 1, 7, 3, 1, false}, {one, 1, 7, 3, 3, false}, {one, 1, 7, 3, -1, false}, {one, 1, 7, 3, 4, false}, {one, 1, 7, 3, 0, false}, {one, 1, 7, 3, 2 + 1<<32, false}, {one, 1, 7, 3, math.MinInt, false}, {one, 1, 7, 3, math.MaxInt, false}, {one, 2, 7, 3, 1, false},
		// The first element alone counts.
		{[]impl.SeenFrame{seenFrame(1, 2, 7, 3), seenFrame(1, 2, 8, 3)}, 1, 7, 3, 2, true}, {[]impl.SeenFrame{seenFrame(1, 2, 7, 3), seenFrame(1, 2, 8, 3)}, 1, 8, 3, 2, false},
		{[]impl.SeenFrame{seenFrame(1, 2, 7, 3), seenFrame(1, 2, 7, 4)}, 1, 7, 3, 2, true}, {[]impl.SeenFrame{seenFrame(1, 2, 7, 3), seenFrame(1, 2, 7, 4)}, 1, 7, 4, 2, false},
		{[]impl.SeenFrame{seenFrame(1, 2, 8, 3), seenFrame(1, 2, 7, 3)}, 1, 7, 3, 2, false}, {[]impl.SeenFrame{seenFrame(1, 2, 7, 4), seenFrame(1, 2, 7, 3)}, 1, 7, 3, 2, false}, {[]impl.SeenFrame{seenFrame(1, 2, 7, 3), seenFrame(1, 2, 7, 3)}, 1, 7, 3, 2, true},
		{[]impl.SeenFrame{seenFrame(1, 3, 8, 3), seenFrame(1, 2, 7, 3)}, 1, 7, 3, 2, true}, {[]impl.SeenFrame{seenFrame(2, 2, 8, 3), seenFrame(1, 2, 7, 3)}, 1, 7, 3, 2, true}, {[]impl.SeenFrame{seenFrame(2, 1, 8, 3), seenFrame(1, 2, 7, 3)}, 1, 7, 3, 2, true},
		{[]impl.SeenFrame{seenFrame(1, 3, 8, 3), seenFrame(2, 2, 9, 3), seenFrame(1, 2, 7, 3), seenFrame(1, 2, 6, 3)}, 1, 7, 3, 2, true}, {[]impl.SeenFrame{seenFrame(1, 3, 7, 3), seenFrame(2, 2, 7, 3), seenFrame(1, 2, 6, 3), seenFrame(1, 2, 7, 3)}, 1, 7, 3, 2, false},
		// There are none, also where the numbers are those of an empty element.
		{nil, 1, 7, 3, 2, false}, {nil, 0, 0, 0, 0, false}, {[]impl.SeenFrame{}, 0, 0, 0, 0, false}, {one[:0], 1, 7, 3, 2, false}, {[]impl.SeenFrame{{}}, 0, 0, 0, 0, true},
	} {
		expectDuplicate(t, c.list, dataFrame(c.from, c.seq, c.fragment, true), c.category, c.want)
		expectDuplicate(t, c.list, dataFrame(c.from, c.seq, c.fragment, false), c.category, false)
	}
}

// An element that is out of range in one field is one like others.
func TestIsDuplicateOfInvalidLists(t *testing.T) {
	for _, s := range spoiltSeen(seenFrame(1, 2, 7, 3)) {
		for _, list := range [][]impl.SeenFrame{{s}, {s, s}, {seenFrame(5, 2, 7, 3), s}, {seenFrame(5, 5, -5, 500), seenFrame(5, 5, -5, 500), s, seenFrame(1, 2, 9, 9)}} {
			expectDuplicate(t, list, dataFrame(s.From, s.Seq, s.Fragment, true), s.Category, true)
			expectDuplicate(t, list, dataFrame(s.From, s.Seq, s.Fragment, false), s.Category, false)
			expectDuplicate(t, list, dataFrame(s.From, s.Seq, s.Fragment+1, true), s.Category, false)
			expectDuplicate(t, list, dataFrame(s.From, s.Seq+1, s.Fragment, true), s.Category, false)
			expectDuplicate(t, list, dataFrame(s.From, s.Seq, s.Fragment, true), s.Category+1, false)
		}
	}
}

// Only From, Seq, Fragment and Retry of the frame matter, whether it is valid or not.
func TestIsDuplicateOfAllFrames(t *testing.T) {
	for _, f := range slices.Concat(carriers(), limitFrames()) {
		for _, category := range slices.Concat(upTo(4), notCategories) {
			for _, retry := range []bool{false, true} {
				f.Retry = retry
				seen := seenFrame(f.From, category, f.Seq, f.Fragment)
				expectDuplicate(t, []impl.SeenFrame{seen}, f, category, retry)
				expectDuplicate(t, []impl.SeenFrame{seenFrame(f.From, category^1, f.Seq, f.Fragment), seen}, f, category, retry)
				expectDuplicate(t, []impl.SeenFrame{seenFrame(f.From, category, f.Seq^1, f.Fragment), seen}, f, category, false)
				expectDuplicate(t, []impl.SeenFrame{seenFrame(f.From, category, f.Seq, f.Fragment^1), seen}, f, category, false)
				expectDuplicate(t, []impl.SeenFrame{seenFrame(f.From^1, category, f.Seq, f.Fragment)}, f, category, false)
				expectDuplicate(t, nil, f, category, false)
			}
		}
	}
}

func TestRememberFrameInFixedLists(t *testing.T) {
	a, b, c := seenFrame(1, 2, 7, 3), seenFrame(1, 3, 900, 0), seenFrame(4, 2, 4095, 15)
	list := []impl.SeenFrame{a, b, c}
	for _, retry := range []bool{false, true} {
		// At the first, a middle and the last place.
		expectRemembered(t, list, dataFrame(1, 8, 4, retry), 2, seenFrame(1, 2, 8, 4), b, c)
		expectRemembered(t, list, dataFrame(1, 901, 1, retry), 3, a, seenFrame(1, 3, 901, 1), c)
		expectRemembered(t, list, dataFrame(4, 0, 0, retry), 2, a, b, seenFrame(4, 2, 0, 0))
		// Only one of the numbers changes, or none.
		expectRemembered(t, list, dataFrame(1, 8, 3, retry), 2, seenFrame(1, 2, 8, 3), b, c)
		expectRemembered(t, list, dataFrame(1, 7, 4, retry), 2, seenFrame(1, 2, 7, 4), b, c)
		expectRemembered(t, list, dataFrame(1, 7, 3, retry), 2, a, b, c)
		// An older number is remembered like a newer one.
		expectRemembered(t, list, dataFrame(1, 6, 2, retry), 2, seenFrame(1, 2, 6, 2), b, c)
		expectRemembered(t, list, dataFrame(1, 4095, 0, retry), 2, seenFrame(1, 2, 4095, 0), b, c)
		// Without an element, a new one is the last.
		expectRemembered(t, list, dataFrame(4, 5, 6, retry), 3, a, b, c, seenFrame(4, 3, 5, 6))
		expectRemembered(t, list, dataFrame(0, 7, 3, retry), 0, a, b, c, seenFrame(0, 0, 7, 3))
		expectRemembered(t, list, dataFrame(2, 7, 3, retry), 1, a, b, c, seenFrame(2, 1, 7, 3))
		expectRemembered(t, nil, dataFrame(1, 7, 3, retry), 2, a)
		expectRemembered(t, []impl.SeenFrame{}, dataFrame(1, 7, 3, retry), 2, a)
		expectRemembered(t, list[:0], dataFrame(1, 7, 4, retry), 2, seenFrame(1, 2, 7, 4))
		expectRemembered(t, list[1:1], dataFrame(0, 0, 0, retry), 0, impl.SeenFrame{})
		// Of two elements, the first one alone is set.
		expectRemembered(t, []impl.SeenFrame{a, b, a, c}, dataFrame(1, 8, 4, retry), 2, seenFrame(1, 2, 8, 4), b, a, c)
		expectRemembered(t, []impl.SeenFrame{b, a, a}, dataFrame(1, 8, 4, retry), 2, b, seenFrame(1, 2, 8, 4), a)
		expectRemembered(t, []impl.SeenFrame{a, seenFrame(1, 2, 8, 4)}, dataFrame(1, 8, 4, retry), 2, seenFrame(1, 2, 8, 4), seenFrame(1, 2, 8, 4))
		expectRemembered(t, []impl.SeenFrame{seenFrame(1, 2, 8, 4), a}, dataFrame(1, 8, 4, retry), 2, seenFrame(1, 2, 8, 4), a)
	}
}

// At each place of a list of all sources, every field of every element and their order.
func TestRememberFrameInFullList(t *testing.T) {
	all := allSeen()
	for place, s := range all {
		want := slices.Clone(all)
		want[place].Seq, want[place].Fragment = 4095-s.Seq, 15-s.Fragment
		expectRemembered(t, all, dataFrame(s.From, 4095-s.Seq, 15-s.Fragment, false), s.Category, want...)
		rest := slices.Concat(all[:place], all[place+1:])
		expectRemembered(t, rest, dataFrame(s.From, s.Seq, s.Fragment, true), s.Category, append(slices.Clone(rest), s)...)
	}
	for _, v := range notStations {
		expectRemembered(t, all, dataFrame(v, 7, 3, false), 2, append(slices.Clone(all), seenFrame(v, 2, 7, 3))...)
	}
	for _, v := range notCategories {
		expectRemembered(t, all, dataFrame(1, 7, 3, false), v, append(slices.Clone(all), seenFrame(1, v, 7, 3))...)
	}
}

// Whether the frame is valid or not, its numbers are remembered as they are.
func TestRememberFrameOfAllFrames(t *testing.T) {
	for _, f := range slices.Concat(carriers(), limitFrames()) {
		for _, category := range slices.Concat(upTo(4), notCategories) {
			seen := seenFrame(f.From, category, f.Seq, f.Fragment)
			expectRemembered(t, nil, f, category, seen)
			expectRemembered(t, []impl.SeenFrame{seenFrame(f.From, category, f.Seq^1, f.Fragment^2)}, f, category, seen)
			expectRemembered(t, []impl.SeenFrame{seenFrame(f.From^1, category, 1, 2), seenFrame(f.From, category^1, 3, 4)}, f, category, seenFrame(f.From^1, category, 1, 2), seenFrame(f.From, category^1, 3, 4), seen)
		}
	}
}

func TestRememberFrameInInvalidLists(t *testing.T) {
	for _, s := range spoiltSeen(seenFrame(1, 2, 7, 3)) {
		next := seenFrame(s.From, s.Category, 8, 4)
		list := []impl.SeenFrame{seenFrame(16, -1, 5000, 99), s, seenFrame(9, 9, 9, 9), s}
		expectRemembered(t, list, dataFrame(s.From, 8, 4, true), s.Category, list[0], next, list[2], s)
		expectRemembered(t, list, dataFrame(3, 8, 4, true), 3, append(slices.Clone(list), seenFrame(3, 3, 8, 4))...)
		expectRemembered(t, list, dataFrame(16, -1, 99, true), -1, seenFrame(16, -1, -1, 99), s, list[2], s)
	}
}

func TestAcceptFrameInFixedLists(t *testing.T) {
	a, b := seenFrame(1, 2, 7, 3), seenFrame(1, 3, 900, 0)
	list := []impl.SeenFrame{a, b}
	expectAccepted(t, list, dataFrame(1, 7, 3, true), 2, false, a, b)
	expectAccepted(t, list, dataFrame(1, 900, 0, true), 3, false, a, b)
	// Without Retry, the same numbers are those of a new frame.
	expectAccepted(t, list, dataFrame(1, 7, 3, false), 2, true, a, b)
	for _, retry := range []bool{false, true} {
		expectAccepted(t, list, dataFrame(1, 8, 3, retry), 2, true, seenFrame(1, 2, 8, 3), b)
		expectAccepted(t, list, dataFrame(1, 7, 4, retry), 2, true, seenFrame(1, 2, 7, 4), b)
		expectAccepted(t, list, dataFrame(1, 6, 3, retry), 2, true, seenFrame(1, 2, 6, 3), b)
		expectAccepted(t, list, dataFrame(1, 7, 3, retry), 3, true, a, seenFrame(1, 3, 7, 3))
		expectAccepted(t, list, dataFrame(1, 7, 3, retry), 0, true, a, b, seenFrame(1, 0, 7, 3))
		expectAccepted(t, list, dataFrame(2, 7, 3, retry), 2, true, a, b, seenFrame(2, 2, 7, 3))
		expectAccepted(t, list, dataFrame(1, 7, 3, retry), 4, true, a, b, seenFrame(1, 4, 7, 3))
		expectAccepted(t, nil, dataFrame(1, 7, 3, retry), 2, true, a)
		expectAccepted(t, []impl.SeenFrame{}, dataFrame(0, 0, 0, retry), 0, true, impl.SeenFrame{})
		// The first of two elements counts, and is set.
		expectAccepted(t, []impl.SeenFrame{b, a, seenFrame(1, 2, 8, 3)}, dataFrame(1, 8, 3, retry), 2, true, b, seenFrame(1, 2, 8, 3), seenFrame(1, 2, 8, 3))
	}
	expectAccepted(t, []impl.SeenFrame{b, a, seenFrame(1, 2, 8, 3)}, dataFrame(1, 7, 3, true), 2, false, b, a, seenFrame(1, 2, 8, 3))
	for _, v := range notCategories {
		odd := seenFrame(v, v, v, v)
		expectAccepted(t, []impl.SeenFrame{odd, odd}, dataFrame(v, v, v, true), v, false, odd, odd)
		expectAccepted(t, []impl.SeenFrame{odd, odd}, dataFrame(v, v^1, v, true), v, true, seenFrame(v, v, v^1, v), odd)
		expectAccepted(t, nil, dataFrame(v, v, v, true), v, true, odd)
	}
}

// All short lists with frames of the sources in them and of others.
func TestSeenListsAgainstReference(t *testing.T) {
	frames := []impl.MacFrame{}
	for _, s := range append(smallSeen(), seenFrame(3, 0, 7, 0), seenFrame(1, 0, 8, 1)) {
		frames = append(frames, dataFrame(s.From, s.Seq, s.Fragment, false))
	}
	smallLists(func(list []impl.SeenFrame) {
		for i, f := range frames {
			expectSeenLikeReference(t, list, f, 2)
			expectSeenLikeReference(t, list, f, []int{0, 1, 3, 4, -1}[i%5])
		}
	})
}

// accept accepts the frames one after the other, in the categories of the same index, and reports which ones were.
func accept(list []impl.SeenFrame, frames []impl.MacFrame, categories []int) ([]impl.SeenFrame, []bool) {
	accepted := []bool{}
	for i, f := range frames {
		left, ok := impl.AcceptFrame(list, f, categories[i])
		list, accepted = left, append(accepted, ok)
	}
	return list, accepted
}

// A retransmission of the frame that was accepted last is recognized; of the one before it, nothing is remembered any more.
func TestAcceptFrameOneAfterAnother(t *testing.T) {
	frames := []impl.MacFrame{
		dataFrame(1, 7, 0, false), dataFrame(1, 7, 0, true), dataFrame(1, 7, 0, true),
		dataFrame(1, 7, 1, false), dataFrame(1, 7, 1, true), dataFrame(1, 7, 0, true), dataFrame(1, 7, 1, true),
		dataFrame(1, 8, 0, true), dataFrame(1, 8, 0, true), dataFrame(1, 8, 0, false), dataFrame(1, 8, 0, true),
		// Other senders and categories between them.
		dataFrame(2, 8, 0, true), dataFrame(1, 8, 0, true), dataFrame(1, 8, 0, true), dataFrame(2, 9, 0, false), dataFrame(1, 8, 0, true), dataFrame(2, 9, 0, true), dataFrame(2, 8, 0, true), dataFrame(1, 8, 0, true),
	}
	categories := []int{2, 2, 2, 2, 2, 2, 2, 2, 2, 2, 2, 2, 2, 3, 2, 3, 2, 2, 2}
	left, accepted := accept(nil, frames, categories)
	if want := []bool{true, false, false, true, false, true, true, true, false, true, false, true, false, true, true, false, false, true, false}; !slices.Equal(accepted, want) {
		t.Errorf("of %v in %v, %v are accepted, not %v", frames, categories, accepted, want)
	}
	if want := []impl.SeenFrame{seenFrame(1, 2, 8, 0), seenFrame(2, 2, 8, 0), seenFrame(1, 3, 8, 0)}; !slices.Equal(left, want) {
		t.Errorf("after %v in %v, the list is %v, not %v", frames, categories, left, want)
	}
}

// sentFrame is a frame that its sender repeats until it is acknowledged.
type sentFrame struct {
	frame    impl.MacFrame
	category int
}

// runSender returns the fragments of count messages of a station, whose numbers go past the end of the circle.
func runSender(random *rand.Rand, from int, category int, count int) []sentFrame {
	frames, seq := []sentFrame{}, 4095-random.IntN(count)
	for range count {
		for fragment := range 1 + random.IntN(3) {
			frames = append(frames, sentFrame{dataFrame(from, seq, fragment, false), category})
		}
		seq = (seq + 1) & seqBits
	}
	return frames
}

// transmission is a course of frames of several senders: what arrives, how often, and in which order.
type transmission struct {
	arrived []sentFrame
	// isFirst states for each of these frames that it did not arrive before.
	isFirst []bool
}

// transmitAll lets the senders repeat each frame until an acknowledgment arrives; frames and acknowledgments are lost.
func transmitAll(random *rand.Rand, senders [][]sentFrame) transmission {
	course := transmission{}
	places, hasArrived := make([]int, len(senders)), make([]bool, len(senders))
	for left := len(senders); left > 0; {
		i := random.IntN(len(senders))
		if places[i] == len(senders[i]) {
			continue
		}
		sent := &senders[i][places[i]]
		arrives, acknowledged := random.IntN(3) > 0, random.IntN(3) > 0
		if arrives {
			course.arrived, course.isFirst = append(course.arrived, *sent), append(course.isFirst, !hasArrived[i])
			hasArrived[i] = true
		}
		sent.frame.Retry = true
		if arrives && acknowledged {
			places[i]++
			hasArrived[i] = false
			if places[i] == len(senders[i]) {
				left--
			}
		}
	}
	return course
}

// Promise 19: if every sender repeats a frame until it is acknowledged, each frame is accepted exactly when it arrives for the first time.
func TestRetransmissionsAreRecognized(t *testing.T) {
	random := rand.New(rand.NewPCG(19, 2))
	for range 300 {
		sources := allSeen()
		random.Shuffle(len(sources), func(i int, j int) { sources[i], sources[j] = sources[j], sources[i] })
		senders := [][]sentFrame{}
		for _, s := range sources[:1+random.IntN(8)] {
			senders = append(senders, runSender(random, s.From, s.Category, 1+random.IntN(15)))
		}
		course := transmitAll(random, senders)
		list := []impl.SeenFrame{}
		for i, sent := range course.arrived {
			want := slices.Clone(list)
			if course.isFirst[i] {
				want = rememberedReference(list, sent.frame, sent.category)
			}
			expectAccepted(t, list, sent.frame, sent.category, course.isFirst[i], want...)
			list, _ = impl.AcceptFrame(list, sent.frame, sent.category)
			expectValidSeen(t, list, true)
			repeated := sent.frame
			repeated.Retry = true
			expectDuplicate(t, list, repeated, sent.category, true)
		}
		if t.Failed() || len(list) != len(senders) {
			t.Fatalf("after %v the list is %v", course.arrived, list)
		}
	}
}

// Many frames behind one another, of which any may repeat any numbers.
func TestCourseOfFrames(t *testing.T) {
	random := rand.New(rand.NewPCG(19, 3))
	refused, list := 0, []impl.SeenFrame{}
	for range 50000 {
		f := dataFrame(random.IntN(4), (4094+random.IntN(4))&seqBits, random.IntN(2), random.IntN(3) > 0)
		category := random.IntN(4)
		want, ok := acceptedReference(list, f, category)
		expectAccepted(t, list, f, category, ok, want...)
		list, ok = impl.AcceptFrame(list, f, category)
		if !ok {
			refused++
		}
		if len(list) > 16 || !impl.AreValidSeen(list) || t.Failed() {
			t.Fatalf("after %v in %d the list is %v", f, category, list)
		}
	}
	if refused < 1000 || len(list) != 16 {
		t.Errorf("%d frames were refused, and the list is %v", refused, list)
	}
}

// The functions take a list of any length.
func TestManySeenFrames(t *testing.T) {
	const count = 50000
	list := []impl.SeenFrame{}
	for i := range count {
		list = append(list, seenFrame(100+i, 2, 7, 3))
	}
	list[count-2].From, list[count-1].From = 1, 1
	changed := slices.Clone(list)
	changed[count-2].Seq = 8
	expectRemembered(t, list, dataFrame(1, 8, 3, true), 2, changed...)
	expectAccepted(t, list, dataFrame(1, 8, 3, true), 2, true, changed...)
	expectAccepted(t, list, dataFrame(1, 7, 3, true), 2, false, list...)
	expectAccepted(t, list, dataFrame(2, 7, 3, true), 2, true, append(slices.Clone(list), seenFrame(2, 2, 7, 3))...)
	expectValidSeen(t, list, false)
	for i := range list {
		list[i].From = i % 16
	}
	expectValidSeen(t, list, false)
}

func TestNextSeq(t *testing.T) {
	for _, c := range [][2]int{{-1, 0}, {0, 1}, {1, 2}, {7, 8}, {127, 128}, {2047, 2048}, {4093, 4094}, {4094, 4095}, {4095, 0}, {4096, 0}, {4097, 0}, {-2, 0}, {-4095, 0}, {-4096, 0}, {8191, 0}, {1 << 32, 0}, {math.MinInt, 0}, {math.MinInt + 5, 0}, {math.MaxInt - 1, 0}, {math.MaxInt, 0}} {
		expectNextSeq(t, c[0], c[1])
	}
	for seq := range 4095 {
		expectNextSeq(t, seq, seq+1)
	}
	for _, seq := range notSeqs {
		expectNextSeq(t, seq, 0)
	}
	for seq := 4096; seq < 10000; seq++ {
		expectNextSeq(t, seq, 0)
		expectNextSeq(t, -seq+4095, 0)
	}
}

func TestSeqDistance(t *testing.T) {
	for _, c := range [][3]int{
		{4090, 4, 10}, {4, 4090, 4086},
		{0, 0, 0}, {7, 7, 0}, {2048, 2048, 0}, {4095, 4095, 0},
		{0, 1, 1}, {1, 0, 4095}, {7, 8, 1}, {8, 7, 4095}, {4094, 4095, 1}, {4095, 4094, 4095}, {2047, 2048, 1}, {2048, 2047, 4095},
		{0, 4095, 4095}, {4095, 0, 1}, {4095, 1, 2}, {1, 4095, 4094}, {4094, 0, 2}, {0, 4094, 4094}, {4094, 1, 3}, {4080, 15, 31}, {15, 4080, 4065},
		{0, 2047, 2047}, {0, 2048, 2048}, {0, 2049, 2049}, {2048, 0, 2048}, {2049, 0, 2047}, {3000, 1000, 2096}, {1000, 3000, 2000},
		{-1, 4, -1}, {4, -1, -1}, {4096, 4, -1}, {4, 4096, -1}, {-1, -1, -1}, {4096, 4096, -1}, {-1, 4096, -1}, {4096, 0, -1}, {0, 4096, -1}, {-1, 0, -1}, {0, -1, -1}, {4095, -1, -1}, {-1, 4095, -1}, {4095, 4096, -1}, {4096, 4095, -1},
		{math.MinInt, 4, -1}, {4, math.MinInt, -1}, {math.MaxInt, 4, -1}, {4, math.MaxInt, -1}, {math.MinInt, math.MaxInt, -1}, {math.MaxInt, math.MinInt, -1}, {math.MinInt, math.MinInt, -1}, {math.MaxInt, math.MaxInt, -1}, {math.MinInt, 0, -1}, {0, math.MinInt, -1},
	} {
		expectSeqDistance(t, c[0], c[1], c[2])
	}
}

// somePlaces are numbers around the ends and the middle of the circle, and some between.
func somePlaces() []int {
	return []int{0, 1, 2, 3, 7, 127, 128, 1000, 2045, 2046, 2047, 2048, 2049, 2050, 3000, 4090, 4092, 4093, 4094, 4095}
}

// circleAnswers returns both answers for two numbers.
func circleAnswers(from int, to int) (int, bool) {
	return impl.SeqDistance(from, to), impl.IsNewer(to, from)
}

// The distance is the number of applications of NextSeq, for all numbers; those that follow within half of the circle are newer.
func TestCircleOfSeqs(t *testing.T) {
	for from := range 4096 {
		to := from
		for steps := range 4096 {
			if distance, newer := circleAnswers(from, to); distance != steps || newer != (steps > 0 && steps < 2048) {
				t.Fatalf("SeqDistance(%d, %d) is %d, and IsNewer of them in reverse is %v after %d steps", from, to, distance, newer, steps)
			}
			to = impl.NextSeq(to)
		}
		if to != from {
			t.Fatalf("4096 steps lead from %d to %d", from, to)
		}
	}
}

func TestSeqDistanceOutOfRange(t *testing.T) {
	places := somePlaces()
	for _, v := range notSeqs {
		for _, w := range slices.Concat(places, notSeqs) {
			expectSeqDistance(t, v, w, -1)
			expectSeqDistance(t, w, v, -1)
			expectNewer(t, v, w, false)
			expectNewer(t, w, v, false)
		}
	}
	for _, a := range slices.Concat(places, notSeqs) {
		for _, b := range slices.Concat(places, notSeqs) {
			expectSeqDistance(t, a, b, seqDistanceReference(a, b))
			expectNewer(t, b, a, slices.Contains(upTo(2048)[1:], seqDistanceReference(a, b)))
		}
	}
}

// The distances at the limits, in the middle and across the end of the circle, with a as the later number.
func TestIsNewerAtDistances(t *testing.T) {
	for _, c := range []struct {
		distance int
		want     bool
	}{{0, false}, {1, true}, {2, true}, {1000, true}, {2046, true}, {2047, true}, {2048, false}, {2049, false}, {3000, false}, {4094, false}, {4095, false}} {
		for _, b := range somePlaces() {
			expectNewer(t, (b+c.distance)&seqBits, b, c.want)
		}
	}
	for _, c := range []struct {
		a, b int
		want bool
	}{
		{4, 4090, true}, {4090, 4, false}, {4, 4, false}, {1, 0, true}, {0, 1, false}, {0, 4095, true}, {4095, 0, false}, {0, 0, false}, {4095, 4095, false},
		{2047, 0, true}, {0, 2047, false}, {2048, 0, false}, {0, 2048, false}, {2049, 0, false}, {0, 2049, true},
		{1023, 3072, true}, {1024, 3072, false}, {3072, 1024, false}, {3071, 1024, true}, {2046, 4095, true}, {2047, 4095, false}, {4095, 2047, false}, {4094, 2047, true},
		{-1, 0, false}, {0, -1, false}, {-1, 4095, false}, {4096, 4095, false}, {4096, 0, false}, {4095, 4096, false}, {1, -1, false}, {4097, 4095, false}, {4097, 4096, false}, {-1, -2, false},
		{math.MinInt, 0, false}, {0, math.MinInt, false}, {math.MaxInt, 0, false}, {0, math.MaxInt, false}, {math.MinInt, math.MaxInt, false}, {math.MaxInt, math.MinInt, false}, {math.MinInt + 1, math.MinInt, false}, {math.MaxInt, math.MaxInt - 1, false},
	} {
		expectNewer(t, c.a, c.b, c.want)
	}
}

// Of two different numbers at most one is newer, and none only of two opposite ones.
func TestOneOfTwoIsNewer(t *testing.T) {
	for a := range 4096 {
		for b := range a + 1 {
			one, other := impl.IsNewer(a, b), impl.IsNewer(b, a)
			if one && other || (one || other) == (a == b || a-b == 2048) {
				t.Fatalf("IsNewer(%d, %d) is %v, and of them in reverse %v", a, b, one, other)
			}
		}
	}
}

// The next number is newer than the one before it, also at the end of the circle.
func TestNextSeqIsNewer(t *testing.T) {
	seq := 0
	for range 3 * 4096 {
		next := impl.NextSeq(seq)
		expectNewer(t, next, seq, true)
		expectNewer(t, seq, next, false)
		expectSeqDistance(t, seq, next, 1)
		seq = next
	}
	if seq != 0 {
		t.Errorf("three times around lead to %d", seq)
	}
}

// seenMarks stand in spare capacity; an append of a frame of theirs would show.
func seenMarks() []impl.SeenFrame {
	return []impl.SeenFrame{seenFrame(1, 2, 77, 7), seenFrame(2, 2, 66, 6), seenFrame(-1, -1, -1, -1)}
}

// markedSeen returns a copy of the list with spare capacity that holds marks.
func markedSeen(list []impl.SeenFrame) []impl.SeenFrame {
	return slices.Concat(list, seenMarks())[:len(list)]
}

func isMarked(list []impl.SeenFrame, want []impl.SeenFrame) bool {
	return slices.Equal(list[:len(want)+len(seenMarks())], slices.Concat(want, seenMarks()))
}

// spoilSeen overwrites all the memory of a list.
func spoilSeen(list []impl.SeenFrame) {
	whole := list[:cap(list)]
	for i := range whole {
		whole[i] = seenFrame(99, 99, 99, 99)
	}
}

// seenCall answers with a list.
type seenCall struct {
	name string
	call func(list []impl.SeenFrame, f impl.MacFrame, category int) []impl.SeenFrame
}

var seenCalls = []seenCall{
	{"RememberFrame", impl.RememberFrame},
	{"AcceptFrame", func(list []impl.SeenFrame, f impl.MacFrame, category int) []impl.SeenFrame {
		left, _ := impl.AcceptFrame(list, f, category)
		return left
	}},
}

// visitSeenCalls visits each call with lists of all lengths and frames that are accepted and refused.
func visitSeenCalls(visit func(c seenCall, list []impl.SeenFrame, f impl.MacFrame, category int)) {
	lists := [][]impl.SeenFrame{nil, {}, {{}}, {seenFrame(1, 2, 7, 3)}, {seenFrame(1, 2, 7, 3), seenFrame(1, 2, 8, 3)}, {seenFrame(2, 2, 8, 3), seenFrame(1, 2, 7, 3), seenFrame(1, 3, 7, 3)}, {seenFrame(-1, 9, 4096, 16)}, allSeen()}
	for _, c := range seenCalls {
		for _, list := range lists {
			for _, retry := range []bool{false, true} {
				for _, category := range []int{2, 3, 9} {
					visit(c, list, dataFrame(1, 7, 3, retry), category)
					visit(c, list, dataFrame(1, 8, 3, retry), category)
					visit(c, list, dataFrame(-1, 4096, 16, retry), category)
				}
			}
		}
	}
}

func TestFunctionsOfSeenFramesKeepTheirArguments(t *testing.T) {
	visitSeenCalls(func(c seenCall, want []impl.SeenFrame, f impl.MacFrame, category int) {
		list := markedSeen(want)
		body := withSpare(f.Body...)
		f.Body = body
		spoilSeen(c.call(list, f, category))
		impl.AreValidSeen(list)
		impl.IsDuplicate(list, f, category)
		if !isMarked(list, want) {
			t.Errorf("%s changed its argument or its spare capacity: %v", c.name, list[:cap(list)])
		}
		checkSpare(t, c.name, body, []byte("body")...)
	})
}

// An answer shares memory neither with the argument, nor with the answer to an equal call.
func TestAnswersOfSeenFramesShareNoMemory(t *testing.T) {
	visitSeenCalls(func(c seenCall, given []impl.SeenFrame, f impl.MacFrame, category int) {
		list := markedSeen(given)
		answer, other := c.call(list, f, category), c.call(list, f, category)
		want := slices.Clone(answer)
		spoilSeen(other)
		if !slices.Equal(answer, want) {
			t.Errorf("two answers of %s of %v, %v, %d share memory", c.name, given, f, category)
		}
		spoilSeen(list)
		if !slices.Equal(answer, want) {
			t.Errorf("the answer of %s of %v, %v, %d shares memory with its argument", c.name, given, f, category)
		}
	})
}

// A list that grew from another one does not write into it, nor into another list that grew from it.
func TestGrownListsShareNoMemory(t *testing.T) {
	first, second := []impl.SeenFrame{}, []impl.SeenFrame{}
	list := []impl.SeenFrame{}
	for n, s := range allSeen() {
		want := slices.Clone(list)
		first = impl.RememberFrame(list, dataFrame(s.From, s.Seq, s.Fragment, false), s.Category)
		second = impl.RememberFrame(list, dataFrame(s.From, s.Seq^1, s.Fragment, false), s.Category)
		if !slices.Equal(list, want) || !slices.Equal(first, allSeen()[:n+1]) || second[n].Seq != s.Seq^1 {
			t.Fatalf("%v and %v grew from %v", first, second, list)
		}
		list = first
	}
}

// The calls between two equal calls change nothing, neither the arguments nor what was returned.
func TestSeenFramesKeepNoState(t *testing.T) {
	answers, wants := [][]impl.SeenFrame{}, [][]impl.SeenFrame{}
	for range 2 {
		visitSeenCalls(func(c seenCall, list []impl.SeenFrame, f impl.MacFrame, category int) {
			answer := c.call(list, f, category)
			answers, wants = append(answers, answer), append(wants, slices.Clone(answer))
			if impl.AreValidSeen(list) != validSeenReference(list) || impl.IsDuplicate(list, f, category) != duplicateReference(list, f, category) {
				t.Errorf("AreValidSeen or IsDuplicate of %v, %v, %d is wrong after other calls", list, f, category)
			}
		})
	}
	half := len(answers) / 2
	if !slices.EqualFunc(answers, wants, slices.Equal) || !slices.EqualFunc(answers[:half], answers[half:], slices.Equal) {
		t.Error("answers were changed by later calls, or differ from those to the same calls before")
	}
}
