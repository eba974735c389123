package tests

import (
	"math"
	"math/big"
	"math/rand/v2"
	"slices"
	"testing"

	"loop.example/g00511/impl"
)

// farPositions exist in no string; the lowest bits of some of them are those of a position that does.
var farPositions = []int{
	-1, -2, -3, -64, 1 << 20, 1 << 32, 1<<32 + 1, -1 << 32, -1<<32 + 1,
	math.MinInt, math.MinInt + 1, math.MinInt + 2, math.MaxInt - 1, math.MaxInt,
}

// occurrences counts how often each position occurs in the lists together.
func occurrences(lists ...[]int) map[int]int {
	count := map[int]int{}
	for _, position := range slices.Concat(lists...) {
		count[position]++
	}
	return count
}

// flipReference decides for each element by how often its index occurs.
func flipReference(bits []int, positions []int) []int {
	count := occurrences(positions)
	list := []int{}
	for i, bit := range bits {
		if isOdd(count[i]) && bit == 0 {
			bit = 1
		} else if isOdd(count[i]) && bit == 1 {
			bit = 0
		}
		list = append(list, bit)
	}
	return list
}

// levelReference computes what is compared with the rate, in integers without limit.
func levelReference(seed int, position int) int {
	hash := big.NewInt(int64(keyedReference(seed, position)))
	square := new(big.Int).Mul(hash, hash)
	square.Mod(square, big.NewInt(modulus))
	return int(square.Mod(square, big.NewInt(1000)).Int64())
}

// errorReference returns the positions whose level is less than the rate.
func errorReference(levels []int, rate int) []int {
	positions := []int{}
	for position, level := range levels {
		if level < rate {
			positions = append(positions, position)
		}
	}
	return positions
}

// levelsReference returns the levels of the first count positions.
func levelsReference(seed int, count int) []int {
	levels := []int{}
	for position := range count {
		levels = append(levels, levelReference(seed, position))
	}
	return levels
}

// mergeReference counts the positions and sorts the odd ones.
func mergeReference(a []int, b []int) []int {
	odd := []int{}
	for position, count := range occurrences(a, b) {
		if isOdd(count) {
			odd = append(odd, position)
		}
	}
	slices.Sort(odd)
	return odd
}

// after returns the integer that follows n, in a circle.
func after(n int) int {
	if n == math.MaxInt {
		return math.MinInt
	}
	return n + 1
}

// burstReference walks from every position as far as there are positions.
func burstReference(positions []int) int {
	longest := 0
	for _, start := range positions {
		length := 0
		for p := start; slices.Contains(positions, p); p = after(p) {
			length++
		}
		longest = max(longest, length)
	}
	return longest
}

// randomPositions returns count positions, some of which do not exist in a string of the length.
func randomPositions(random *rand.Rand, count int, length int) []int {
	positions := make([]int, count)
	for i := range positions {
		positions[i] = random.IntN(length+6) - 3
		if random.IntN(10) == 0 {
			positions[i] = farPositions[random.IntN(len(farPositions))]
		}
	}
	return positions
}

// shortLists returns all lists of at most the length of elements of the choice.
func shortLists(choice []int, length int) [][]int {
	all := [][]int{{}}
	previous := all
	for range length {
		longer := [][]int{}
		for _, list := range previous {
			for _, v := range choice {
				longer = append(longer, append(slices.Clone(list), v))
			}
		}
		all = append(all, longer...)
		previous = longer
	}
	return all
}

// expectFlipped also checks promise 9: the same positions once more restore the bits.
func expectFlipped(t *testing.T, bits []int, positions []int, want []int) {
	t.Helper()
	got := impl.FlipBits(bits, positions)
	if !slices.Equal(got, want) {
		t.Errorf("FlipBits(%v, %v) is %v, not %v", bits, positions, got, want)
	}
	if back := impl.FlipBits(got, positions); !slices.Equal(back, bits) {
		t.Errorf("FlipBits(%v, %v) is %v, not %v again", got, positions, back, bits)
	}
}

func expectErrors(t *testing.T, seed int, count int, rate int, want []int) {
	t.Helper()
	if got := impl.ErrorPattern(seed, count, rate); !slices.Equal(got, want) {
		t.Errorf("ErrorPattern(%d, %d, %d) has %d positions, not %d, or others", seed, count, rate, len(got), len(want))
	}
}

func expectMerged(t *testing.T, a []int, b []int, want []int) {
	t.Helper()
	if got := impl.MergePatterns(a, b); !slices.Equal(got, want) {
		t.Errorf("MergePatterns(%v, %v) is %v, not %v", a, b, got, want)
	}
}

func expectPattern(t *testing.T, positions []int, count int, want bool) {
	t.Helper()
	if got := impl.IsValidPattern(positions, count); got != want {
		t.Errorf("IsValidPattern(%v, %d) is %v", positions, count, got)
	}
}

func expectLongestBurst(t *testing.T, positions []int, want int) {
	t.Helper()
	if got := impl.LongestBurst(positions); got != want {
		t.Errorf("LongestBurst(%v) is %d, not %d", positions, got, want)
	}
}

func TestConstantsOfChannel(t *testing.T) {
	if impl.MaxErrorRate != 1000 {
		t.Error(impl.MaxErrorRate)
	}
}

func TestFlipBits(t *testing.T) {
	for _, c := range []struct{ bits, positions, want []int }{
		{[]int{0, 1, 2}, []int{0, 1, 2, 9, 1}, []int{1, 1, 2}},
		{[]int{0, 0, 1, 1}, []int{0}, []int{1, 0, 1, 1}},
		{[]int{0, 0, 1, 1}, []int{3}, []int{0, 0, 1, 0}},
		{[]int{0, 0, 1, 1}, []int{2, 1}, []int{0, 1, 0, 1}},
		{[]int{0, 0, 1, 1}, []int{3, 2, 1, 0}, []int{1, 1, 0, 0}},
		{[]int{0}, []int{0}, []int{1}}, {[]int{1}, []int{0}, []int{0}},
		// none to invert
		{[]int{0, 1, 1}, []int{}, []int{0, 1, 1}}, {[]int{0, 1, 1}, nil, []int{0, 1, 1}}, {[]int{5, -1}, nil, []int{5, -1}},
		{nil, nil, nil}, {[]int{}, []int{}, nil}, {nil, []int{}, nil}, {[]int{}, nil, nil}, {nil, []int{0}, nil}, {[]int{}, []int{0, 0, 1, -1}, nil},
		{nil, farPositions, nil}, {[]int{}, farPositions, nil}, {[]int{0, 1, 1}, farPositions, []int{0, 1, 1}},
		// positions that do not exist, and one that does among them
		{[]int{0, 1, 1}, []int{-1}, []int{0, 1, 1}}, {[]int{0, 1, 1}, []int{3}, []int{0, 1, 1}},
		{[]int{0, 1, 1}, []int{-1, 0}, []int{1, 1, 1}}, {[]int{0, 1, 1}, []int{3, 2}, []int{0, 1, 0}},
		{[]int{0, 1, 1}, []int{math.MinInt, 1, math.MaxInt}, []int{0, 0, 1}},
		// repeated positions
		{[]int{0, 1}, []int{0, 0}, []int{0, 1}}, {[]int{0, 1}, []int{0, 0, 0}, []int{1, 1}}, {[]int{0, 1}, []int{1, 1}, []int{0, 1}},
		{[]int{0, 1}, []int{1, 0, 1}, []int{1, 1}}, {[]int{0, 1}, []int{1, 0, 1, 1}, []int{1, 0}}, {[]int{0, 1}, []int{1, 1, 1, 1}, []int{0, 1}},
	} {
		expectFlipped(t, c.bits, c.positions, c.want)
	}
}

// One and the same position, up to four times: at the beginning, in the middle, at the end and beside the string.
func TestFlipBitsAtOnePosition(t *testing.T) {
	for _, length := range []int{1, 2, 3, 8, 65} {
		for _, bits := range [][]int{make([]int, length), ones(length), bitsOfText("10110")[:min(length, 5)]} {
			for _, p := range append([]int{0, 1, length / 2, length - 1, length, length + 1}, farPositions...) {
				for times := range 5 {
					want := slices.Clone(bits)
					if p >= 0 && p < len(bits) && isOdd(times) {
						want = flipped(bits, p)
					}
					expectFlipped(t, bits, slices.Repeat([]int{p}, times), want)
				}
			}
		}
	}
}

// Elements that are no bits stay what they are, wherever they stand; their neighbors are inverted.
func TestFlipBitsKeepsOtherElements(t *testing.T) {
	for _, v := range notBits {
		for _, length := range []int{1, 2, 3, 9} {
			for _, i := range []int{0, length / 2, length - 1} {
				bits := with(make([]int, length), i, v)
				expectFlipped(t, bits, []int{i}, bits)
				expectFlipped(t, bits, []int{i, i}, bits)
				expectFlipped(t, bits, []int{i, i, i}, bits)
				expectFlipped(t, bits, upTo(length), with(ones(length), i, v))
			}
		}
	}
}

// All short bit strings with all short lists of positions.
func TestFlipBitsOfAllShortStrings(t *testing.T) {
	lists := shortLists([]int{-1, 0, 1, 2, 3}, 4)
	for _, bits := range shortLists([]int{0, 1, 2}, 3) {
		for _, positions := range lists {
			expectFlipped(t, bits, positions, flipReference(bits, positions))
		}
	}
}

// Promise 9: inverting positions twice restores the bits.
func TestFlipBitsTwice(t *testing.T) {
	random := rand.New(rand.NewPCG(9, 1))
	for range 2000 {
		length := random.IntN(100)
		bits := randomSymbols(random, length, 2)
		if random.IntN(2) == 0 {
			bits = disturbed(random, bits, 5, 5)
		}
		positions := randomPositions(random, random.IntN(200), length)
		expectFlipped(t, bits, positions, flipReference(bits, positions))
	}
	for _, rate := range []int{0, 1, 300, 999, 1000} {
		bits := randomSymbols(random, 10000, 2)
		positions := impl.ErrorPattern(9, len(bits), rate)
		expectFlipped(t, bits, positions, flipReference(bits, positions))
	}
	for _, start := range []int{0, 1, 9000, 9001, 9999, 10000} {
		bits := randomSymbols(random, 10000, 2)
		positions := impl.BurstPattern(start, 1000)
		expectFlipped(t, bits, positions, flipReference(bits, positions))
	}
}

// The positions of an error pattern are those at which the bits differ afterwards.
func TestFlippedBitsDiffer(t *testing.T) {
	bits := make([]int, 500)
	for _, rate := range []int{0, 100, 1000} {
		positions := impl.ErrorPattern(4, 500, rate)
		if got := impl.HammingDistance(bits, impl.FlipBits(bits, positions)); got != len(positions) {
			t.Errorf("%d bits differ, not %d", got, len(positions))
		}
	}
}

// Fixed values, computed apart from the program.
func TestErrorPattern(t *testing.T) {
	for _, c := range []struct {
		seed int
		want []int
	}{
		{7, []int{9, 24, 37, 47, 49}}, {0, []int{9, 20, 30}}, {-1, []int{7, 18, 21, 22}}, {-7, []int{4, 32, 43}},
		{modulus - 1, []int{7, 18, 21, 22}}, {modulus, []int{9, 20, 30}}, {modulus + 7, []int{9, 24, 37, 47, 49}},
		{math.MaxInt, []int{27, 40, 44}}, {math.MinInt, []int{6, 18, 20, 28, 48, 49}},
	} {
		expectErrors(t, c.seed, 50, 100, c.want)
	}
	expectErrors(t, 7, 10000, 1, []int{203, 1598, 1760, 3647, 5870, 6248, 6371, 8065, 8604, 8769, 9659, 9883})
	expectErrors(t, 7, 10000, 2, []int{203, 624, 1598, 1760, 2762, 3647, 4467, 5242, 5870, 6248, 6371, 8065, 8321, 8597, 8604, 8769, 9659, 9883})
	// Only the positions of the greatest level are free of errors.
	expectErrors(t, 7, 10000, 999, mergeReference(upTo(10000), []int{471, 729, 2049, 2418, 6852, 6939, 7697, 8205}))
	// the levels 533 and 973 of position 0
	expectErrors(t, 7, 1, 533, nil)
	expectErrors(t, 7, 1, 534, []int{0})
	expectErrors(t, 0, 1, 973, nil)
	expectErrors(t, 0, 1, 974, []int{0})
}

// Each combination of limits, compared with the definition.
func TestErrorPatternAgainstReference(t *testing.T) {
	for _, seed := range []int{0, 1, 2, 77, -1, -7, modulus - 2, modulus - 1, modulus, modulus + 1, -modulus, 1 << 40, math.MinInt, math.MinInt + 1, math.MaxInt - 1, math.MaxInt} {
		levels := levelsReference(seed, 10000)
		for _, count := range []int{-1, 0, 1, 2, 50, 9999, 10000, 10001, 10002, -2, -10000, 1 << 32, 1<<32 + 5, math.MinInt, math.MinInt + 5, math.MaxInt - 1, math.MaxInt} {
			existing := levels[:min(max(count, 0), 10000)]
			if count > 10000 {
				existing = nil
			}
			for _, rate := range []int{
				-1, 0, 1, 2, 300, 500, 998, 999, 1000, 1001, -2, -300, -1000, 2000,
				1 << 32, 1<<32 + 300, -1 << 32, -1<<32 + 300, math.MinInt, math.MinInt + 300, math.MaxInt - 1, math.MaxInt,
			} {
				expectErrors(t, seed, count, rate, errorReference(existing, rate))
			}
		}
	}
}

// The definition once more, with the functions of chapter 3.
func TestErrorPatternByKeyedHash(t *testing.T) {
	for seed := -20; seed <= 20; seed++ {
		for _, rate := range []int{1, 10, 500, 990} {
			want := []int{}
			for i := range 300 {
				hash := impl.KeyedHash(seed, []int{i})
				if impl.Mod(hash*hash, impl.Modulus)%impl.MaxErrorRate < rate {
					want = append(want, i)
				}
			}
			expectErrors(t, seed, 300, rate, want)
		}
	}
}

func TestErrorPatternIsValidAndGrowsWithItsArguments(t *testing.T) {
	for seed := range 30 {
		whole := impl.ErrorPattern(seed, 400, 300)
		if !impl.IsValidPattern(whole, 400) || !slices.Equal(whole, impl.ErrorPattern(seed, 400, 300)) {
			t.Errorf("the pattern of seed %d is not valid or not the same twice", seed)
		}
		for count := range 400 {
			cut, _ := slices.BinarySearch(whole, count)
			expectErrors(t, seed, count, 300, whole[:cut])
		}
		previous := []int{}
		for rate := 0; rate <= 1000; rate += 50 {
			list := impl.ErrorPattern(seed, 400, rate)
			if slices.ContainsFunc(previous, func(p int) bool { return !slices.Contains(list, p) }) {
				t.Errorf("with seed %d, an error vanishes at rate %d", seed, rate)
			}
			previous = list
		}
	}
}

func TestBurstPattern(t *testing.T) {
	for _, c := range []struct {
		start, length int
		want          []int
	}{
		{4, 3, []int{4, 5, 6}}, {0, 1, []int{0}}, {0, 2, []int{0, 1}}, {0, 0, nil}, {10000, 0, nil}, {10000, 1, []int{10000}}, {10000, 3, []int{10000, 10001, 10002}},
		{9999, 2, []int{9999, 10000}}, {-1, 3, nil}, {-1, 1, nil}, {10001, 1, nil}, {10001, 0, nil}, {4, -1, nil}, {4, -3, nil}, {0, 1001, nil}, {10000, 1001, nil},
	} {
		if got := impl.BurstPattern(c.start, c.length); !slices.Equal(got, c.want) {
			t.Errorf("BurstPattern(%d, %d) is %v, not %v", c.start, c.length, got, c.want)
		}
	}
}

// Each combination of limits; a burst is as long as asked for and moves with its start.
func TestBurstPatternLimits(t *testing.T) {
	for _, start := range []int{-1, 0, 1, 5, 9000, 9999, 10000, 10001, 10002, -2, -1000, 1 << 32, 1<<32 + 5, -1 << 32, -1<<32 + 5, math.MinInt, math.MinInt + 5, math.MaxInt - 1, math.MaxInt} {
		for _, length := range []int{-1, 0, 1, 2, 999, 1000, 1001, 1002, -2, -1000, 10000, 1 << 32, 1<<32 + 5, -1 << 32, -1<<32 + 5, math.MinInt, math.MinInt + 5, math.MaxInt - 1, math.MaxInt} {
			want := []int{}
			if start >= 0 && start <= 10000 && length >= 0 && length <= 1000 {
				want = upTo(start + length)[start:]
			}
			got := impl.BurstPattern(start, length)
			if !slices.Equal(got, want) {
				t.Errorf("BurstPattern(%d, %d) has %d positions, not %d, or others", start, length, len(got), len(want))
			}
			expectLongestBurst(t, got, len(want))
			expectPattern(t, got, 11000, true)
		}
	}
}

func TestMergePatterns(t *testing.T) {
	for _, c := range []struct{ a, b, want []int }{
		{[]int{5, 1, 1}, []int{3, 5, 5}, []int{3, 5}},
		{nil, nil, nil}, {[]int{}, []int{}, nil}, {[]int{}, nil, nil}, {nil, []int{}, nil},
		{[]int{4}, nil, []int{4}}, {nil, []int{4}, []int{4}}, {[]int{4}, []int{}, []int{4}}, {[]int{}, []int{4}, []int{4}},
		// twice, three times and four times, in one of them or in both
		{[]int{4, 4}, nil, nil}, {nil, []int{4, 4}, nil}, {[]int{4}, []int{4}, nil},
		{[]int{4, 4, 4}, nil, []int{4}}, {nil, []int{4, 4, 4}, []int{4}}, {[]int{4, 4}, []int{4}, []int{4}}, {[]int{4}, []int{4, 4}, []int{4}},
		{[]int{4, 4}, []int{4, 4}, nil}, {[]int{4, 4, 4}, []int{4}, nil}, {[]int{4, 4, 4}, []int{4, 4, 4}, nil}, {[]int{4, 4, 4}, []int{4, 4}, []int{4}},
		{[]int{1, 2, 3}, []int{1, 2, 3}, nil}, {[]int{1, 2, 3}, []int{3, 1, 2}, nil}, {[]int{1, 3, 5}, []int{2, 4, 6}, []int{1, 2, 3, 4, 5, 6}},
		// in no order
		{[]int{9, 2, 7}, []int{8, 1}, []int{1, 2, 7, 8, 9}}, {[]int{9, 2, 7, 2}, []int{7, 9, 1}, []int{1}}, {[]int{3, 1, 3, 1, 3}, []int{1}, []int{1, 3}},
		// Any ints are merged: no position is out of range.
		{[]int{-1, -5}, []int{-3, 0}, []int{-5, -3, -1, 0}}, {[]int{-1, 1}, []int{-1}, []int{1}}, {[]int{-1, -1, 2}, []int{-1}, []int{-1, 2}},
		{[]int{math.MaxInt, 0}, []int{math.MinInt}, []int{math.MinInt, 0, math.MaxInt}},
		{[]int{math.MaxInt, math.MinInt}, []int{math.MinInt, math.MinInt}, []int{math.MinInt, math.MaxInt}},
		{[]int{math.MaxInt, math.MinInt}, []int{math.MinInt, math.MaxInt}, nil},
		{[]int{math.MaxInt - 1, math.MinInt + 1, -1}, []int{1, math.MinInt, math.MaxInt}, []int{math.MinInt, math.MinInt + 1, -1, 1, math.MaxInt - 1, math.MaxInt}},
		{[]int{1 << 32, 1<<32 + 1}, []int{0, 1}, []int{0, 1, 1 << 32, 1<<32 + 1}},
	} {
		expectMerged(t, c.a, c.b, c.want)
	}
}

// All pairs of short lists, and longer ones, compared with counted positions.
func TestMergePatternsAgainstReference(t *testing.T) {
	lists := shortLists([]int{-1, 0, 2, math.MaxInt}, 3)
	for _, a := range lists {
		for _, b := range lists {
			expectMerged(t, a, b, mergeReference(a, b))
		}
	}
	random := rand.New(rand.NewPCG(9, 2))
	for range 1000 {
		a, b := randomPositions(random, random.IntN(100), 40), randomPositions(random, random.IntN(100), 40)
		expectMerged(t, a, b, mergeReference(a, b))
	}
	expectMerged(t, upTo(20000), upTo(10000), upTo(20000)[10000:])
}

// Applying the merged pattern equals applying both.
func TestMergedPatternFlipsLikeBoth(t *testing.T) {
	random := rand.New(rand.NewPCG(9, 3))
	for range 2000 {
		length := random.IntN(40)
		bits := disturbed(random, randomSymbols(random, length, 2), 6, 4)
		a, b := randomPositions(random, random.IntN(60), length), randomPositions(random, random.IntN(60), length)
		merged := impl.MergePatterns(a, b)
		both := impl.FlipBits(impl.FlipBits(bits, a), b)
		if got := impl.FlipBits(bits, merged); !slices.Equal(got, both) {
			t.Errorf("of %v, with %v and %v: %v, not %v", bits, a, b, got, both)
		}
		// A pattern cancels itself, and each of the two is what the other one and both leave.
		expectMerged(t, merged, merged, nil)
		expectMerged(t, merged, b, mergeReference(a, nil))
		expectMerged(t, b, a, merged)
	}
}

func TestIsValidPattern(t *testing.T) {
	for _, c := range []struct {
		positions []int
		count     int
	}{
		{[]int{0}, 1}, {[]int{0}, 2}, {[]int{1}, 2}, {[]int{0, 1}, 2}, {[]int{0, 2}, 3}, {[]int{1, 2, 4}, 5}, {[]int{4}, 5}, {[]int{0, 4}, 5},
		{upTo(10000), 10000}, {upTo(10001), 10001}, {[]int{0, math.MaxInt - 1}, math.MaxInt}, {[]int{math.MaxInt - 1}, math.MaxInt},
		// The least int minus 1 is the greatest int.
		{[]int{0}, math.MinInt}, {[]int{0, 1, 2}, math.MinInt}, {[]int{math.MaxInt}, math.MinInt}, {[]int{0, math.MaxInt - 1, math.MaxInt}, math.MinInt},
	} {
		expectPattern(t, c.positions, c.count, true)
	}
	for _, c := range []struct {
		positions []int
		count     int
	}{
		{[]int{2, 2}, 5}, {[]int{5}, 5}, {[]int{-1}, 5}, {[]int{-1, 0}, 5}, {[]int{4, 5}, 5}, {[]int{6}, 5}, {[]int{0, 1, 5}, 5}, {[]int{-1, 1, 2}, 5},
		// repeated and descending positions, at the beginning, in the middle and at the end
		{[]int{0, 0, 1, 2}, 5}, {[]int{0, 1, 1, 2}, 5}, {[]int{0, 1, 2, 2}, 5}, {[]int{1, 0, 2, 3}, 5}, {[]int{0, 2, 1, 3}, 5}, {[]int{0, 1, 3, 2}, 5},
		{[]int{4, 3, 2}, 5}, {[]int{1, 2, 1}, 5}, {[]int{0, 0}, 1}, {[]int{3, 0}, 5}, {[]int{math.MaxInt, 0}, math.MinInt}, {[]int{1, 1}, math.MinInt},
		// Without bits there are no positions.
		{[]int{0}, 0}, {[]int{-1}, 0}, {[]int{1}, 0}, {[]int{0}, -1}, {[]int{-1}, -1}, {[]int{-2}, -1}, {[]int{-3}, -1}, {[]int{0}, -5}, {[]int{-6}, -5},
		{[]int{math.MaxInt}, math.MaxInt}, {[]int{0, math.MaxInt}, math.MaxInt}, {[]int{math.MinInt}, math.MaxInt}, {[]int{math.MinInt, 0}, 5},
		{[]int{-1}, math.MinInt}, {[]int{math.MinInt}, math.MinInt}, {[]int{math.MinInt, 0}, math.MinInt}, {[]int{0}, math.MinInt + 1}, {[]int{math.MaxInt}, math.MinInt + 1},
		{[]int{math.MinInt}, math.MinInt + 1}, {[]int{1 << 32}, 5}, {[]int{1<<32 + 1}, 5}, {[]int{0, 1<<32 + 1}, 5},
	} {
		expectPattern(t, c.positions, c.count, false)
	}
}

// Without positions, every count is good.
func TestIsValidPatternOfNone(t *testing.T) {
	for _, count := range append([]int{0, 1, 2, 10000, 10001}, farPositions...) {
		expectPattern(t, nil, count, true)
		expectPattern(t, []int{}, count, true)
	}
}

// All short lists, compared with the positions that exist, taken in order.
func TestIsValidPatternOfAllShortLists(t *testing.T) {
	for _, count := range []int{-2, -1, 0, 1, 2, 3, 4} {
		for _, positions := range shortLists([]int{-2, -1, 0, 1, 2, 3, 4}, 4) {
			existing := []int{}
			for p := range max(count, 0) {
				if slices.Contains(positions, p) {
					existing = append(existing, p)
				}
			}
			expectPattern(t, positions, count, slices.Equal(positions, existing))
		}
	}
}

// One other position suffices, wherever it stands.
func TestIsValidPatternRejectsOnePosition(t *testing.T) {
	for _, length := range []int{1, 2, 3, 8, 65} {
		for i := range length {
			expectPattern(t, upTo(length), length, true)
			expectPattern(t, upTo(length), length-1, false)
			for _, v := range append([]int{length, length + 1}, farPositions...) {
				expectPattern(t, with(upTo(length), i, v), length, false)
			}
			for v := range i {
				expectPattern(t, with(upTo(length), i, v), length, false)
			}
		}
	}
}

func TestLongestBurst(t *testing.T) {
	for _, c := range []struct {
		positions []int
		want      int
	}{
		{nil, 0}, {[]int{}, 0}, {[]int{0}, 1}, {[]int{7}, 1}, {[]int{-7}, 1}, {[]int{math.MinInt}, 1}, {[]int{math.MaxInt}, 1},
		{[]int{9, 4, 5, 6, 8}, 3}, {[]int{0, 1, 2}, 3}, {[]int{0, 2, 4}, 1}, {[]int{0, 1, 3, 4}, 2}, {[]int{0, 1, 3, 4, 5}, 3}, {[]int{0, 1, 2, 4, 5}, 3},
		// repeated positions count once
		{[]int{4, 4}, 1}, {[]int{4, 4, 4}, 1}, {[]int{4, 5, 4}, 2}, {[]int{4, 4, 5, 5, 6, 6}, 3}, {[]int{4, 4, 6, 6}, 1}, {[]int{6, 5, 6, 4, 5}, 3},
		// in no order
		{[]int{2, 1, 0}, 3}, {[]int{1, 5, 2, 6, 3}, 3}, {[]int{10, 1, 11, 2, 12, 3, 13}, 4}, {[]int{3, 1}, 1},
		// several bursts of the same length
		{[]int{0, 1, 5, 6, 10, 11}, 2}, {[]int{11, 5, 0, 10, 6, 1}, 2}, {[]int{0, 1, 2, -5, -4, -3}, 3},
		// negative positions, and from them on
		{[]int{-3, -2, -1}, 3}, {[]int{-1, -3}, 1}, {[]int{-2, -1, 0, 1}, 4}, {[]int{0, -1}, 2}, {[]int{-1, 1}, 1},
		// The greatest int is followed by the least one.
		{[]int{math.MaxInt, math.MinInt}, 2}, {[]int{math.MinInt, math.MaxInt}, 2}, {[]int{math.MinInt, math.MaxInt - 1}, 1}, {[]int{math.MinInt + 1, math.MaxInt}, 1},
		{[]int{math.MinInt, math.MinInt + 1, math.MaxInt - 1, math.MaxInt}, 4}, {[]int{math.MaxInt, math.MinInt + 1, math.MinInt, math.MinInt, 3}, 3},
		{[]int{math.MaxInt, math.MaxInt - 1, math.MaxInt - 2}, 3}, {[]int{math.MinInt, math.MinInt + 1, math.MinInt + 2}, 3},
		{[]int{math.MinInt, math.MaxInt, 0, 1, 2}, 3}, {[]int{math.MinInt, math.MaxInt, math.MinInt + 1, 0, 1}, 3}, {[]int{math.MaxInt, math.MinInt, 0}, 2},
		{[]int{0, 1 << 32, 1}, 2}, {[]int{1<<32 - 1, 0}, 1}, {[]int{math.MaxInt32, math.MinInt32}, 1},
	} {
		expectLongestBurst(t, c.positions, c.want)
	}
}

func TestLongestBurstAgainstReference(t *testing.T) {
	for _, positions := range shortLists([]int{math.MaxInt - 1, math.MaxInt, math.MinInt, math.MinInt + 1, -1, 0, 1}, 5) {
		expectLongestBurst(t, positions, burstReference(positions))
	}
	random := rand.New(rand.NewPCG(9, 4))
	for range 1000 {
		positions := randomPositions(random, random.IntN(80), 60)
		expectLongestBurst(t, positions, burstReference(positions))
	}
}

// Long bursts in any order, of which every position occurs several times, also around the greatest int.
func TestLongestBurstOfMany(t *testing.T) {
	random := rand.New(rand.NewPCG(9, 5))
	for _, start := range []int{0, 5, -20000, -50000, math.MinInt, math.MaxInt - 39999, math.MaxInt - 39998, math.MaxInt - 20000, math.MaxInt} {
		positions := []int{}
		for i := range 40000 {
			// In Go, this sum wraps around as the chapter says.
			positions = append(positions, start+i)
		}
		positions = append(positions, positions[:10000]...)
		positions = append(positions, slices.Repeat([]int{start}, 10000)...)
		random.Shuffle(len(positions), func(i int, j int) { positions[i], positions[j] = positions[j], positions[i] })
		expectLongestBurst(t, positions, 40000)
		// Without its middle, the burst falls into two parts.
		parts := slices.DeleteFunc(positions, func(p int) bool { return p == start+15000 })
		expectLongestBurst(t, parts, 24999)
	}
}

func TestChannelFunctionsKeepTheirArguments(t *testing.T) {
	for _, values := range [][]int{{}, {1}, {2, 0, 1}, {0, 0, 3, 1, 1, 1}, {5, 4, 3, 2, 1, 0}, {math.MaxInt, math.MinInt, 0, -1, -1}} {
		list, other := intsWithSpare(values...), intsWithSpare(1, 0, 1, 1)
		impl.IsValidPattern(list, 4)
		impl.LongestBurst(list)
		for _, got := range [][]int{
			impl.FlipBits(list, other), impl.FlipBits(other, list), impl.FlipBits(list, list), impl.FlipBits(list, nil), impl.FlipBits(nil, list),
			impl.MergePatterns(list, other), impl.MergePatterns(other, list), impl.MergePatterns(list, list), impl.MergePatterns(list, nil), impl.MergePatterns(nil, list),
		} {
			spoilInts(append(got, 1))
			spoilInts(got)
			checkIntsSpare(t, "a function of the channel", list, values...)
			checkIntsSpare(t, "a function of the channel", other, 1, 0, 1, 1)
		}
	}
}

func TestResultsOfChannelFunctionsShareNoMemory(t *testing.T) {
	list := []int{1, 0, 0, 1}
	for _, c := range []struct {
		name string
		call func() []int
		want []int
	}{
		{"FlipBits", func() []int { return impl.FlipBits(list, []int{1}) }, []int{1, 1, 0, 1}},
		{"FlipBits at no positions", func() []int { return impl.FlipBits(list, nil) }, list},
		{"FlipBits of no bits", func() []int { return impl.FlipBits(nil, list) }, nil},
		{"ErrorPattern", func() []int { return impl.ErrorPattern(7, 50, 100) }, []int{9, 24, 37, 47, 49}},
		{"ErrorPattern of no bits", func() []int { return impl.ErrorPattern(7, 0, 100) }, nil},
		{"BurstPattern", func() []int { return impl.BurstPattern(4, 3) }, []int{4, 5, 6}},
		{"BurstPattern of no length", func() []int { return impl.BurstPattern(4, 0) }, nil},
		{"MergePatterns", func() []int { return impl.MergePatterns([]int{5, 1}, []int{3}) }, []int{1, 3, 5}},
		{"MergePatterns with none", func() []int { return impl.MergePatterns([]int{1, 2}, nil) }, []int{1, 2}},
	} {
		one, two := c.call(), c.call()
		spoilInts(append(one, 1))
		spoilInts(one)
		if !slices.Equal(two, c.want) || !slices.Equal(c.call(), c.want) {
			t.Errorf("two results of %s share memory: %v", c.name, two)
		}
	}
}
