package tests

import (
	"math"
	"math/rand/v2"
	"slices"
	"testing"

	"loop.example/g00511/impl"
)

// notColumns are numbers of columns out of range; the lowest bits of some of them are those of one in the range.
var notColumns = []int{
	-1, 0, 65, -2, -3, -64, 66, 127, 128, 257, 10000, 1 << 32, 1<<32 + 3, -1<<32 + 3, math.MinInt, math.MinInt + 3, math.MaxInt - 1, math.MaxInt,
}

// notInterleaved are counts of symbols out of range.
var notInterleaved = []int{
	-1, 10001, -2, -7, -10000, 10002, 20000, 65536 + 7, 1 << 32, 1<<32 + 7, -1<<32 + 7, math.MinInt, math.MinInt + 7, math.MaxInt - 1, math.MaxInt,
}

// sampleColumns are numbers of columns in the range.
var sampleColumns = []int{1, 2, 3, 4, 5, 7, 8, 16, 31, 32, 33, 63, 64}

// upTo returns the integers from 0 to count-1.
func upTo(count int) []int {
	list := make([]int, max(count, 0))
	for i := range list {
		list[i] = i
	}
	return list
}

// byColumns writes the list row by row into a table and reads it column by column.
func byColumns(list []int, columns int) []int {
	read := []int{}
	for column := range columns {
		for row := range slices.Chunk(list, columns) {
			if column < len(row) {
				read = append(read, row[column])
			}
		}
	}
	return read
}

// positionsReference returns the position of each of count symbols.
func positionsReference(count int, columns int) []int {
	positions := make([]int, count)
	for position, index := range byColumns(upTo(count), columns) {
		positions[index] = position
	}
	return positions
}

// spreadReference returns the least distance of neighbors in a list of positions.
func spreadReference(positions []int) int {
	if len(positions) < 2 {
		return 0
	}
	least := math.MaxInt
	for i := range positions[1:] {
		least = min(least, max(positions[i]-positions[i+1], positions[i+1]-positions[i]))
	}
	return least
}

// isOnce reports whether the sorted list is 0, 1, 2 and so on.
func isOnce(list []int) bool {
	return slices.Equal(slices.Sorted(slices.Values(list)), upTo(len(list)))
}

// hasNeighbors reports whether an ascending list contains two consecutive integers.
func hasNeighbors(list []int) bool {
	for i := range len(list) - 1 {
		if list[i]+1 == list[i+1] {
			return true
		}
	}
	return false
}

// countsAround returns counts below the columns, at every multiple of them up to the fifth, and beside it.
func countsAround(columns int) []int {
	counts := []int{0, 1, 2, columns / 2}
	for n := 1; n <= 5; n++ {
		counts = append(counts, n*columns-1, n*columns, n*columns+1)
	}
	return append(counts, 997, 9999, 10000, 10000/columns*columns-1, 10000/columns*columns)
}

func expectIndex(t *testing.T, count int, columns int, index int, want int) {
	t.Helper()
	if got := impl.InterleavedIndex(count, columns, index); got != want {
		t.Errorf("InterleavedIndex(%d, %d, %d) is %d, not %d", count, columns, index, got, want)
	}
}

func expectHits(t *testing.T, count int, columns int, start int, length int, want ...int) {
	t.Helper()
	if got := impl.BurstHits(count, columns, start, length); !slices.Equal(got, want) {
		t.Errorf("BurstHits(%d, %d, %d, %d) is %v, not %v", count, columns, start, length, got, want)
	}
}

// expectInterleaved checks both directions with a list and what is read of it.
func expectInterleaved(t *testing.T, list []int, columns int, read []int) {
	t.Helper()
	if got := impl.Interleave(list, columns); !slices.Equal(got, read) {
		t.Errorf("Interleave of %d symbols with %d columns: %v, not %v", len(list), columns, got, read)
	}
	if got := impl.Deinterleave(read, columns); !slices.Equal(got, list) {
		t.Errorf("Deinterleave of %d symbols with %d columns: %v, not %v", len(list), columns, got, list)
	}
}

func TestConstantsOfInterleaver(t *testing.T) {
	if impl.MaxColumns != 64 {
		t.Error(impl.MaxColumns)
	}
}

func TestInterleavedIndex(t *testing.T) {
	// The example of the chapter: the last row has one symbol.
	for position, index := range []int{0, 3, 6, 1, 4, 2, 5} {
		expectIndex(t, 7, 3, index, position)
	}
	for _, c := range []struct{ count, columns, index, want int }{
		{1, 1, 0, 0}, {1, 64, 0, 0}, {2, 1, 1, 1}, {2, 64, 1, 1}, {5, 8, 4, 4}, {64, 64, 63, 63},
		{6, 3, 4, 3}, {8, 3, 7, 5}, {8, 3, 5, 7}, {9, 3, 7, 5}, {9, 3, 2, 6}, {65, 64, 64, 1}, {65, 64, 1, 2}, {65, 64, 63, 64},
		{10000, 1, 0, 0}, {10000, 1, 9999, 9999}, {10000, 2, 9999, 9999}, {10000, 2, 1, 5000},
		{10000, 64, 63, 9844}, {10000, 64, 9983, 9999}, {10000, 64, 9999, 2511}, {10000, 64, 9984, 156}, {10000, 64, 1, 157},
	} {
		expectIndex(t, c.count, c.columns, c.index, c.want)
	}
}

func TestInterleavedIndexAgainstTable(t *testing.T) {
	for columns := 1; columns <= 64; columns++ {
		for _, count := range append(countsAround(columns), upTo(80)...) {
			for index, want := range positionsReference(count, columns) {
				if got := impl.InterleavedIndex(count, columns, index); got != want {
					t.Fatalf("InterleavedIndex(%d, %d, %d) is %d, not %d", count, columns, index, got, want)
				}
			}
		}
	}
}

// Every combination of limits: one argument out of range suffices.
func TestInterleavedIndexRejects(t *testing.T) {
	for _, count := range append([]int{0, 1, 2, 7, 9999, 10000}, notInterleaved...) {
		for _, columns := range append([]int{1, 2, 3, 63, 64}, notColumns...) {
			positions := []int{}
			if !slices.Contains(notInterleaved, count) && !slices.Contains(notColumns, columns) {
				positions = positionsReference(count, columns)
			}
			for _, index := range []int{
				-1, 0, 1, -2, -7, 6, 7, 8, 9999, 10000, 10001, count - 1, count, count + 1, -count,
				1 << 32, -1 << 32, math.MinInt, math.MinInt + 1, math.MaxInt - 1, math.MaxInt,
			} {
				want := -1
				if index >= 0 && index < len(positions) {
					want = positions[index]
				}
				expectIndex(t, count, columns, index, want)
			}
		}
	}
}

func TestInterleave(t *testing.T) {
	for _, c := range []struct {
		list    []int
		columns int
		read    []int
	}{
		{[]int{10, 11, 12, 13, 14, 15, 16}, 3, []int{10, 13, 16, 11, 14, 12, 15}},
		{[]int{10, 11, 12, 13, 14, 15}, 3, []int{10, 13, 11, 14, 12, 15}},
		{[]int{10, 11, 12, 13, 14, 15, 16, 17}, 3, []int{10, 13, 16, 11, 14, 17, 12, 15}},
		{[]int{10, 11, 12, 13, 14}, 2, []int{10, 12, 14, 11, 13}},
		{[]int{10, 11, 12, 13, 14}, 4, []int{10, 14, 11, 12, 13}},
		{[]int{10, 11, 12, 13, 14}, 5, []int{10, 11, 12, 13, 14}},
		{[]int{10, 11, 12, 13, 14}, 6, []int{10, 11, 12, 13, 14}},
		{[]int{10, 11, 12, 13, 14}, 64, []int{10, 11, 12, 13, 14}},
		{[]int{10, 11, 12, 13, 14}, 1, []int{10, 11, 12, 13, 14}},
		{[]int{5}, 1, []int{5}}, {[]int{-5}, 64, []int{-5}}, {[]int{}, 3, []int{}}, {nil, 3, nil}, {nil, 1, nil}, {[]int{}, 64, nil},
		// Any ints are taken, also equal ones.
		{[]int{math.MinInt, math.MaxInt, -1, 2, 0, 2}, 2, []int{math.MinInt, -1, 0, math.MaxInt, 2, 2}},
		// a copy, since the columns are out of range
		{[]int{10, 11, 12, 13, 14}, 0, []int{10, 11, 12, 13, 14}}, {[]int{10, 11, 12, 13, 14}, -2, []int{10, 11, 12, 13, 14}},
		{nil, 0, nil}, {nil, 65, nil}, {[]int{}, -1, nil},
	} {
		expectInterleaved(t, c.list, c.columns, c.read)
	}
}

func TestInterleaveAgainstTable(t *testing.T) {
	for _, columns := range sampleColumns {
		for length := range 5*columns + 2 {
			expectInterleaved(t, numbered(length), columns, byColumns(numbered(length), columns))
		}
		for _, length := range []int{9998, 9999, 10000} {
			expectInterleaved(t, numbered(length), columns, byColumns(numbered(length), columns))
		}
	}
}

func TestInterleaveCopiesOutOfRange(t *testing.T) {
	for _, columns := range append([]int{1, 2, 3, 8, 63, 64}, notColumns...) {
		for _, length := range []int{10001, 10002, 20000, 65536} {
			expectInterleaved(t, numbered(length), columns, numbered(length))
		}
	}
	for _, columns := range notColumns {
		for _, length := range []int{0, 1, 2, 7, 64, 65, 129, 200, 9999, 10000} {
			expectInterleaved(t, numbered(length), columns, numbered(length))
		}
	}
}

// The positions of InterleavedIndex are those at which Interleave puts the symbols.
func TestInterleaveAgreesWithIndex(t *testing.T) {
	for _, columns := range sampleColumns {
		for _, count := range countsAround(columns) {
			list := numbered(count)
			read := impl.Interleave(list, columns)
			for index, symbol := range list {
				if position := impl.InterleavedIndex(count, columns, index); !impl.InRange(position, 0, count-1) || read[position] != symbol {
					t.Fatalf("symbol %d of %d with %d columns is not read at %d", index, count, columns, position)
				}
			}
		}
	}
}

// Promise 8: interleaving is a permutation, which Deinterleave inverts, in either order.
func TestInterleavingIsPermutation(t *testing.T) {
	random := rand.New(rand.NewPCG(8, 1))
	for columns := -1; columns <= 66; columns++ {
		for _, count := range []int{0, 1, 2, 3, 7, 8, 63, 64, 65, 127, 128, 129, 500 + random.IntN(500), 10000, 10001} {
			order, back := impl.Interleave(upTo(count), columns), impl.Deinterleave(upTo(count), columns)
			if !isOnce(order) || !isOnce(back) || !impl.IsPermutation(order) || !impl.IsPermutation(back) {
				t.Errorf("%d symbols with %d columns are not permuted", count, columns)
			}
			symbols := randomSymbols(random, count, 3)
			if got := impl.Deinterleave(impl.Interleave(symbols, columns), columns); !slices.Equal(got, symbols) {
				t.Errorf("Deinterleave does not restore %d symbols with %d columns", count, columns)
			}
			if got := impl.Interleave(impl.Deinterleave(symbols, columns), columns); !slices.Equal(got, symbols) {
				t.Errorf("Interleave does not restore %d symbols with %d columns", count, columns)
			}
		}
	}
}

func TestMinimumSpread(t *testing.T) {
	for _, c := range []struct{ count, columns, want int }{
		{9, 3, 3}, {7, 3, 2}, {8, 3, 3}, {10, 3, 3}, {6, 3, 2}, {4, 3, 1}, {3, 3, 1}, {2, 3, 1}, {2, 1, 1}, {2, 2, 1}, {2, 64, 1},
		{1, 3, 0}, {0, 3, 0}, {1, 1, 0}, {0, 1, 0}, {1, 64, 0}, {0, 64, 0}, {100, 1, 1}, {64, 8, 8}, {63, 8, 8}, {57, 8, 7}, {65, 8, 8},
		{4, 2, 1}, {5, 2, 2}, {6, 2, 2}, {10000, 1, 1}, {10000, 2, 4999}, {10000, 10, 1000}, {10000, 64, 156}, {9984, 64, 156},
		{10001, 1, 0}, {10001, 64, 0}, {-1, 1, 0}, {9, 0, 0}, {9, -3, 0}, {9, 65, 0}, {10000, 0, 0}, {10000, 65, 0}, {10001, 65, 0},
		{math.MinInt, 3, 0}, {math.MaxInt, 3, 0}, {9, math.MinInt, 0}, {9, math.MaxInt, 0}, {math.MinInt, math.MinInt, 0}, {math.MaxInt, math.MaxInt, 0},
	} {
		if got := impl.MinimumSpread(c.count, c.columns); got != c.want {
			t.Errorf("MinimumSpread(%d, %d) is %d, not %d", c.count, c.columns, got, c.want)
		}
	}
}

func TestMinimumSpreadAgainstNeighbors(t *testing.T) {
	for columns := 1; columns <= 64; columns++ {
		for _, count := range append(countsAround(columns), upTo(200)...) {
			want := spreadReference(positionsReference(count, columns))
			if got := impl.MinimumSpread(count, columns); got != want {
				t.Errorf("MinimumSpread(%d, %d) is %d, not %d", count, columns, got, want)
			}
		}
	}
}

func TestMinimumSpreadRejects(t *testing.T) {
	for _, count := range append([]int{0, 1, 2, 9, 10000}, notInterleaved...) {
		for _, columns := range append([]int{1, 2, 3, 64}, notColumns...) {
			if !slices.Contains(notInterleaved, count) && !slices.Contains(notColumns, columns) {
				continue
			}
			if got := impl.MinimumSpread(count, columns); got != 0 {
				t.Errorf("MinimumSpread(%d, %d) is %d", count, columns, got)
			}
		}
	}
}

func TestBurstHits(t *testing.T) {
	expectHits(t, 7, 3, 0, 3, 0, 3, 6)
	expectHits(t, 7, 3, 0, 1, 0)
	expectHits(t, 7, 3, 0, 0)
	expectHits(t, 7, 3, 0, 7, 0, 1, 2, 3, 4, 5, 6)
	expectHits(t, 7, 3, 0, 8, 0, 1, 2, 3, 4, 5, 6)
	expectHits(t, 7, 3, 1, 3, 1, 3, 6)
	expectHits(t, 7, 3, 2, 3, 1, 4, 6)
	expectHits(t, 7, 3, 5, 2, 2, 5)
	expectHits(t, 7, 3, 6, 1, 5)
	expectHits(t, 7, 3, 6, 100, 5)
	expectHits(t, 7, 3, 7, 1)
	expectHits(t, 7, 3, 8, 10000)
	expectHits(t, 1, 64, 0, 1, 0)
	expectHits(t, 0, 64, 0, 10000)
	expectHits(t, 10000, 64, 0, 3, 0, 64, 128)
	expectHits(t, 10000, 64, 9999, 10000, 9983)
	expectHits(t, 10000, 64, 10000, 10000)
	expectHits(t, 10000, 64, 10001, 10000)
	expectHits(t, 10000, 2, 4999, 2, 1, 9998)
	for _, columns := range []int{1, 3, 64} {
		for _, length := range []int{10000, 10001, math.MaxInt - 1, math.MaxInt} {
			expectHits(t, 10000, columns, 0, length, upTo(10000)...)
		}
	}
}

// All small arguments, compared with a part of what is read, sorted.
func TestBurstHitsAgainstTable(t *testing.T) {
	for _, columns := range []int{1, 2, 3, 5, 8, 64} {
		for count := range 20 {
			order := byColumns(upTo(count), columns)
			for start := range 24 {
				for length := range 24 {
					part := order[min(start, count):min(start+length, count)]
					expectHits(t, count, columns, start, length, slices.Sorted(slices.Values(part))...)
				}
			}
		}
	}
}

// Starts and lengths at their limits, with counts at theirs; beyond the limits, starts hit nothing and lengths are cut.
func TestBurstHitsLimits(t *testing.T) {
	starts := []int{0, 1, 6, 7, 8, 9998, 9999, 10000, -1, -2, -7, -10000, 10001, 10002, 1 << 32, -1 << 32, math.MinInt, math.MinInt + 1, math.MaxInt - 1, math.MaxInt}
	lengths := []int{0, 1, 2, 9999, 10000, 10001, 10002, 1 << 32, math.MaxInt - 1, math.MaxInt, -1, -2, -10000, -1 << 32, math.MinInt, math.MinInt + 1}
	for _, count := range []int{0, 1, 7, 9999, 10000} {
		for _, columns := range []int{1, 3, 64} {
			order := byColumns(upTo(count), columns)
			for _, start := range starts {
				for _, length := range lengths {
					want := []int{}
					if start >= 0 && start <= 10000 {
						cut := min(max(length, 0), 10000)
						want = slices.Sorted(slices.Values(order[min(start, count):min(start+cut, count)]))
					}
					if got := impl.BurstHits(count, columns, start, length); !slices.Equal(got, want) {
						t.Errorf("BurstHits(%d, %d, %d, %d) has %d indices, not %d, or others", count, columns, start, length, len(got), len(want))
					}
				}
			}
		}
	}
}

func TestBurstHitsRejects(t *testing.T) {
	for _, count := range append([]int{0, 1, 7, 10000}, notInterleaved...) {
		for _, columns := range append([]int{1, 3, 64}, notColumns...) {
			if !slices.Contains(notInterleaved, count) && !slices.Contains(notColumns, columns) {
				continue
			}
			for _, start := range []int{0, 1, 10000, -1, 10001, math.MinInt, math.MaxInt} {
				for _, length := range []int{1, 3, 10000, 0, -1, 10001, math.MinInt, math.MaxInt} {
					expectHits(t, count, columns, start, length)
				}
			}
		}
	}
}

// Promise 8: a burst as long as the least spread hits no two neighbors, wherever it starts; of those that are one longer, some do.
func TestBurstsAreSpread(t *testing.T) {
	for _, columns := range sampleColumns {
		for _, count := range []int{2, 3, columns + 1, 2*columns + 1, 4*columns - 1, 4 * columns, 4*columns + 1, 199} {
			spread := impl.MinimumSpread(count, columns)
			hit := false
			for start := range count {
				if got := impl.BurstHits(count, columns, start, spread); hasNeighbors(got) {
					t.Errorf("of %d symbols with %d columns, %d from %d on hit neighbors: %v", count, columns, spread, start, got)
				}
				hit = hit || hasNeighbors(impl.BurstHits(count, columns, start, spread+1))
			}
			if !hit {
				t.Errorf("of %d symbols with %d columns, no burst of %d hits neighbors", count, columns, spread+1)
			}
		}
	}
}

// The symbols that a burst replaces are, in the original order, those of BurstHits.
func TestBurstHitsAfterDeinterleave(t *testing.T) {
	for _, columns := range sampleColumns {
		for _, count := range []int{1, columns, 3*columns - 1, 3*columns + 1, 100} {
			for start := 0; start < count; start += 7 {
				read := impl.Interleave(make([]int, count), columns)
				for position := start; position < min(start+5, count); position++ {
					read[position] = 1
				}
				hits := []int{}
				for index, symbol := range impl.Deinterleave(read, columns) {
					if symbol == 1 {
						hits = append(hits, index)
					}
				}
				expectHits(t, count, columns, start, 5, hits...)
			}
		}
	}
}

func TestIsPermutation(t *testing.T) {
	large := upTo(10001)
	reversed := slices.Clone(large)
	slices.Reverse(reversed)
	for _, indices := range [][]int{nil, {}, {0}, {0, 1}, {1, 0}, {2, 0, 1}, {0, 3, 6, 1, 4, 2, 5}, large, reversed} {
		if !impl.IsPermutation(indices) {
			t.Errorf("IsPermutation(%v) is false", indices)
		}
	}
	for _, indices := range [][]int{
		{1}, {-1}, {2}, {0, 0}, {1, 1}, {1, 2}, {0, 2}, {-1, 0}, {0, -1}, {0, 1, 3}, {0, 1, 1}, {0, 2, 2}, {1, 2, 3}, {-1, 0, 1}, {0, 1, -2},
		ones(1000), make([]int, 2), make([]int, 1000), {math.MinInt}, {math.MaxInt}, {0, math.MaxInt}, {math.MinInt, 0}, {1 << 32}, {0, 1<<32 + 1},
	} {
		if impl.IsPermutation(indices) {
			t.Errorf("IsPermutation(%v) is true", indices)
		}
	}
	// One other element suffices, wherever it stands: a repeated one, a negative one, the length or an integer beyond it.
	for _, length := range []int{2, 3, 8, 65} {
		for i := range length {
			for _, v := range []int{-1, -i - 1, -length, length, length + 1, 2 * length, 1<<32 + i, (i + 1) % length, math.MinInt, math.MinInt + i, math.MaxInt} {
				if changed := with(upTo(length), i, v); impl.IsPermutation(changed) {
					t.Errorf("IsPermutation(%v) is true", changed)
				}
			}
		}
	}
}

// All lists of up to five elements from -1 to 5, compared with a sorted list.
func TestIsPermutationOfAllShortLists(t *testing.T) {
	lists := [][]int{{}}
	for range 5 {
		longer := [][]int{}
		for _, list := range lists {
			for v := -1; v <= 5; v++ {
				longer = append(longer, append(slices.Clone(list), v))
			}
		}
		for _, list := range longer {
			if got := impl.IsPermutation(list); got != isOnce(list) {
				t.Errorf("IsPermutation(%v) is %v", list, got)
			}
		}
		lists = longer
	}
}

func TestInterleavingFunctionsKeepTheirArguments(t *testing.T) {
	for _, values := range [][]int{{}, {1}, {2, 0, 1}, {10, 11, 12, 13, 14, 15, 16}, {math.MinInt, math.MaxInt, 0, -1}} {
		for _, columns := range []int{-1, 0, 1, 2, 3, 8, 64, 65} {
			list := intsWithSpare(values...)
			impl.IsPermutation(list)
			for _, got := range [][]int{impl.Interleave(list, columns), impl.Deinterleave(list, columns)} {
				spoilInts(append(got, 1))
				spoilInts(got)
				checkIntsSpare(t, "a function of interleaving", list, values...)
			}
		}
	}
	// Too many symbols are copied, too.
	for _, columns := range []int{0, 3} {
		list := intsWithSpare(upTo(10001)...)
		spoilInts(impl.Interleave(list, columns))
		spoilInts(impl.Deinterleave(list, columns))
		checkIntsSpare(t, "a function of interleaving", list, upTo(10001)...)
	}
}

func TestResultsOfInterleavingFunctionsShareNoMemory(t *testing.T) {
	list := []int{10, 11, 12, 13}
	for _, c := range []struct {
		name string
		call func() []int
		want []int
	}{
		{"Interleave", func() []int { return impl.Interleave(list, 2) }, []int{10, 12, 11, 13}},
		{"Interleave with no columns", func() []int { return impl.Interleave(list, 0) }, list},
		{"Deinterleave", func() []int { return impl.Deinterleave(list, 2) }, []int{10, 12, 11, 13}},
		{"Deinterleave with no columns", func() []int { return impl.Deinterleave(list, 0) }, list},
		{"BurstHits", func() []int { return impl.BurstHits(7, 3, 0, 3) }, []int{0, 3, 6}},
		{"BurstHits of no symbols", func() []int { return impl.BurstHits(7, 3, 0, 0) }, []int{}},
	} {
		one, two := c.call(), c.call()
		spoilInts(append(one, 1))
		spoilInts(one)
		if !slices.Equal(two, c.want) || !slices.Equal(c.call(), c.want) {
			t.Errorf("two results of %s share memory: %v", c.name, two)
		}
	}
}
