package tests

import (
	"math"
	"math/rand/v2"
	"slices"
	"testing"

	"loop.example/g00511/impl"
)

// accessRows are the numbers of the categories, from the least urgent to the most urgent one: Aifs, CwMin, CwMax, Burst.
var accessRows = [][4]int{{7, 15, 1023, 10}, {3, 15, 1023, 10}, {2, 7, 15, 40}, {2, 3, 7, 20}}

// allWindows are the contention windows, in ascending order.
var allWindows = []int{1, 3, 7, 15, 31, 63, 127, 255, 511, 1023}

// The lowest bits of some of the numbers out of range are those of a number in range.
var (
	notCategories = []int{-1, 4, 9, -2, -3, -4, 5, 6, 7, 8, 255, 256, 259, 1 << 32, 1<<32 + 1, -1<<32 + 3, math.MinInt, math.MinInt + 2, math.MinInt + 3, math.MaxInt - 1, math.MaxInt}
	notPriorities = []int{-1, 8, -2, -3, -7, -8, 9, 10, 15, 16, 256, 257, 263, 1 << 32, 1<<32 + 5, -1<<32 + 6, math.MinInt, math.MinInt + 1, math.MinInt + 7, math.MaxInt - 1, math.MaxInt}
	goodAifs      = []int{1, 2, 3, 7, 8, 14, 15}
	notAifs       = []int{-1, 0, 16, -2, -15, 17, 18, 31, 257, 1 << 32, 1<<32 + 2, -1<<32 + 7, math.MinInt, math.MinInt + 1, math.MinInt + 15, math.MaxInt - 1, math.MaxInt}
	goodBursts    = []int{1, 2, 10, 40, 512, 999, 1000}
	notBursts     = []int{-1, 0, 1001, -2, -10, -1000, 1002, 1024, 65546, 1 << 32, 1<<32 + 10, -1<<32 + 10, math.MinInt, math.MinInt + 1, math.MinInt + 10, math.MaxInt - 1, math.MaxInt}
	notWindows    = []int{
		-1, 0, 2, 4, 5, 6, 8, 9, 13, 14, 16, 17, 1022, 1024, 1025, 2046, 2047, 2048, 2049, 4095,
		-2, -3, -4, -7, -8, -15, -1023, -1024, 1<<32 - 1, 1 << 32, 1<<32 + 1, 1<<32 + 7, -1<<32 + 15,
		math.MinInt, math.MinInt + 1, math.MinInt + 3, math.MaxInt / 2, math.MaxInt - 1, math.MaxInt,
	}
)

func rowParams(row [4]int) impl.AccessParams {
	return impl.AccessParams{Aifs: row[0], CwMin: row[1], CwMax: row[2], Burst: row[3]}
}

// paramsReference returns the same as impl.ParamsFor.
func paramsReference(category int) impl.AccessParams {
	if category < 0 || category >= len(accessRows) {
		return impl.AccessParams{}
	}
	return rowParams(accessRows[category])
}

// validParamsReference looks the numbers up.
func validParamsReference(p impl.AccessParams) bool {
	low, high := slices.Index(allWindows, p.CwMin), slices.Index(allWindows, p.CwMax)
	return p.Aifs >= 1 && p.Aifs <= 15 && p.Burst >= 1 && p.Burst <= 1000 && low >= 0 && high >= low
}

// nextWindowReference doubles without a limit and then looks at it.
func nextWindowReference(p impl.AccessParams, window int) int {
	switch {
	case !validParamsReference(p):
		return 0
	case window < p.CwMin || window > p.CwMax:
		return p.CwMin
	case window+window+1 > p.CwMax:
		return p.CwMax
	}
	return window + window + 1
}

// windowAfterReference looks the window up: each failure leads from one window to the next greater one.
func windowAfterReference(p impl.AccessParams, failures int) int {
	if !validParamsReference(p) {
		return 0
	}
	first := slices.Index(allWindows, p.CwMin)
	index := first + min(max(failures, 0), 20)
	return min(allWindows[min(index, len(allWindows)-1)], p.CwMax)
}

// winnerReference asks for each category whether it is ready.
func winnerReference(ready []int) int {
	for category := 3; category >= 0; category-- {
		if slices.Contains(ready, category) {
			return category
		}
	}
	return -1
}

// allParams returns valid parameters with each pair of windows, those of the categories first.
func allParams() []impl.AccessParams {
	list := []impl.AccessParams{}
	for _, row := range accessRows {
		list = append(list, rowParams(row))
	}
	for i, low := range allWindows {
		for j, high := range allWindows[i:] {
			aifs, burst := goodAifs[(i+j)%len(goodAifs)], goodBursts[(i+2*j)%len(goodBursts)]
			list = append(list, impl.AccessParams{Aifs: aifs, CwMin: low, CwMax: high, Burst: burst})
		}
	}
	return list
}

// wrongParams returns parameters that are invalid in one field alone, or in the order of the windows.
func wrongParams() []impl.AccessParams {
	list := []impl.AccessParams{}
	for _, p := range allParams() {
		for _, n := range notAifs {
			list = append(list, impl.AccessParams{Aifs: n, CwMin: p.CwMin, CwMax: p.CwMax, Burst: p.Burst})
		}
		for _, n := range notBursts {
			list = append(list, impl.AccessParams{Aifs: p.Aifs, CwMin: p.CwMin, CwMax: p.CwMax, Burst: n})
		}
		for _, n := range notWindows {
			list = append(list, impl.AccessParams{Aifs: p.Aifs, CwMin: n, CwMax: p.CwMax, Burst: p.Burst})
			list = append(list, impl.AccessParams{Aifs: p.Aifs, CwMin: p.CwMin, CwMax: n, Burst: p.Burst})
		}
		if p.CwMin < p.CwMax {
			list = append(list, impl.AccessParams{Aifs: p.Aifs, CwMin: p.CwMax, CwMax: p.CwMin, Burst: p.Burst})
		}
	}
	return list
}

// windowsAround returns every number up to beyond the greatest window, and far ones.
func windowsAround() []int {
	list := upTo(1100)
	for less := range 1100 {
		list = append(list, -less-1)
	}
	// The product of some of these wraps around into the range.
	far := []int{2046, 2047, 2048, 1 << 32, 1<<32 + 7, -1<<32 + 15, 1 << 62, 1<<62 + 1, 1<<62 + 7, 3 << 61, math.MaxInt / 2, math.MaxInt - 1, math.MaxInt, math.MinInt, math.MinInt + 1, math.MinInt + 3, math.MinInt + 7}
	return append(list, far...)
}

func failureCounts() []int {
	list := append(upTo(41), -1, -2, -20, -21, 255, 256, 1000, 1<<32, 1<<32+1, -1<<32+2)
	return append(list, math.MinInt, math.MinInt+1, math.MinInt+20, math.MaxInt-1, math.MaxInt)
}

func expectParams(t *testing.T, p impl.AccessParams, want bool) {
	t.Helper()
	if got := impl.IsValidParams(p); got != want {
		t.Errorf("IsValidParams(%v) is %v", p, got)
	}
}

func expectNext(t *testing.T, p impl.AccessParams, window int, want int) {
	t.Helper()
	if got := impl.NextWindow(p, window); got != want {
		t.Errorf("NextWindow(%v, %d) is %d, not %d", p, window, got, want)
	}
}

func expectAfter(t *testing.T, p impl.AccessParams, failures int, want int) {
	t.Helper()
	if got := impl.WindowAfter(p, failures); got != want {
		t.Errorf("WindowAfter(%v, %d) is %d, not %d", p, failures, got, want)
	}
}

func expectWinner(t *testing.T, ready []int, want int) {
	t.Helper()
	if got := impl.InternalWinner(ready); got != want {
		t.Errorf("InternalWinner(%v) is %d, not %d", ready, got, want)
	}
}

func TestConstantsOfAccess(t *testing.T) {
	if impl.Background != 0 || impl.BestEffort != 1 || impl.Video != 2 || impl.Voice != 3 {
		t.Error(impl.Background, impl.BestEffort, impl.Video, impl.Voice)
	}
}

// Fixed values, computed apart from the program.
func TestIsValidParams(t *testing.T) {
	for _, c := range []struct {
		row  [4]int
		want bool
	}{
		{[4]int{0, 0, 0, 0}, false}, {[4]int{1, 1, 1, 1}, true}, {[4]int{15, 1023, 1023, 1000}, true}, {[4]int{15, 1, 1023, 1000}, true},
		// Aifs
		{[4]int{-1, 3, 7, 20}, false}, {[4]int{0, 3, 7, 20}, false}, {[4]int{1, 3, 7, 20}, true}, {[4]int{15, 3, 7, 20}, true}, {[4]int{16, 3, 7, 20}, false},
		{[4]int{math.MinInt, 3, 7, 20}, false}, {[4]int{math.MaxInt, 3, 7, 20}, false},
		// CwMin
		{[4]int{2, -1, 7, 20}, false}, {[4]int{2, 0, 7, 20}, false}, {[4]int{2, 1, 7, 20}, true}, {[4]int{2, 2, 7, 20}, false}, {[4]int{2, 4, 7, 20}, false},
		{[4]int{2, 6, 7, 20}, false}, {[4]int{2, 7, 7, 20}, true}, {[4]int{2, 8, 7, 20}, false}, {[4]int{2, 15, 7, 20}, false}, {[4]int{2, 1023, 7, 20}, false},
		{[4]int{2, math.MinInt, 7, 20}, false}, {[4]int{2, math.MaxInt, 7, 20}, false},
		// CwMax
		{[4]int{2, 3, -1, 20}, false}, {[4]int{2, 3, 0, 20}, false}, {[4]int{2, 3, 1, 20}, false}, {[4]int{2, 3, 2, 20}, false}, {[4]int{2, 3, 3, 20}, true},
		{[4]int{2, 3, 4, 20}, false}, {[4]int{2, 3, 1022, 20}, false}, {[4]int{2, 3, 1023, 20}, true}, {[4]int{2, 3, 1024, 20}, false}, {[4]int{2, 3, 2047, 20}, false},
		{[4]int{2, 3, math.MinInt, 20}, false}, {[4]int{2, 3, math.MaxInt, 20}, false},
		// both
		{[4]int{2, 0, 0, 20}, false}, {[4]int{2, -1, -1, 20}, false}, {[4]int{2, 2047, 2047, 20}, false}, {[4]int{2, math.MaxInt, math.MaxInt, 20}, false},
		{[4]int{2, math.MinInt, math.MinInt, 20}, false}, {[4]int{2, 511, 1023, 20}, true}, {[4]int{2, 1023, 511, 20}, false},
		// Burst
		{[4]int{2, 3, 7, -1}, false}, {[4]int{2, 3, 7, 0}, false}, {[4]int{2, 3, 7, 1}, true}, {[4]int{2, 3, 7, 1000}, true}, {[4]int{2, 3, 7, 1001}, false},
		{[4]int{2, 3, 7, math.MinInt}, false}, {[4]int{2, 3, 7, math.MaxInt}, false},
	} {
		expectParams(t, rowParams(c.row), c.want)
	}
	expectParams(t, impl.AccessParams{}, false)
	expectParams(t, impl.AccessParams{Aifs: 2, CwMin: 3, CwMax: 7, Burst: impl.MaxDuration}, true)
	expectParams(t, impl.AccessParams{Aifs: 2, CwMin: 3, CwMax: 7, Burst: impl.MaxDuration + 1}, false)
}

func TestIsValidParamsOfEachField(t *testing.T) {
	for _, p := range allParams() {
		expectParams(t, p, true)
		for _, n := range goodAifs {
			expectParams(t, impl.AccessParams{Aifs: n, CwMin: p.CwMin, CwMax: p.CwMax, Burst: p.Burst}, true)
		}
		for _, n := range goodBursts {
			expectParams(t, impl.AccessParams{Aifs: p.Aifs, CwMin: p.CwMin, CwMax: p.CwMax, Burst: n}, true)
		}
	}
	for _, p := range wrongParams() {
		expectParams(t, p, false)
	}
}

// Every pair of numbers up to beyond the limit, of which only the windows are accepted.
func TestIsValidParamsOfAllWindows(t *testing.T) {
	accepted := 0
	for low := -2; low <= 1100; low++ {
		for high := -2; high <= 1100; high++ {
			if impl.IsValidParams(impl.AccessParams{Aifs: 1, CwMin: low, CwMax: high, Burst: 1}) {
				accepted++
			}
		}
	}
	if accepted != 55 {
		t.Errorf("%d pairs of windows are accepted, not 55", accepted)
	}
}

func TestIsValidParamsAgainstReference(t *testing.T) {
	limits := append(slices.Clone(notWindows), 1, 3)
	for power := 4; power <= 2048; power *= 2 {
		limits = append(limits, power-1, power, power+1)
	}
	for _, aifs := range []int{-1, 0, 1, 15, 16, math.MinInt, math.MaxInt} {
		for _, burst := range []int{-1, 0, 1, 1000, 1001, math.MinInt, math.MaxInt} {
			for _, low := range limits {
				for _, high := range limits {
					p := impl.AccessParams{Aifs: aifs, CwMin: low, CwMax: high, Burst: burst}
					expectParams(t, p, validParamsReference(p))
				}
			}
		}
	}
}

func TestParamsFor(t *testing.T) {
	for category, row := range accessRows {
		p := impl.ParamsFor(category)
		if p.Aifs != row[0] || p.CwMin != row[1] || p.CwMax != row[2] || p.Burst != row[3] {
			t.Errorf("ParamsFor(%d) is %v, not %v", category, p, row)
		}
		expectParams(t, p, true)
	}
	for _, category := range notCategories {
		if p := impl.ParamsFor(category); p != (impl.AccessParams{}) {
			t.Errorf("ParamsFor(%d) is %v", category, p)
		}
		expectParams(t, impl.ParamsFor(category), false)
	}
}

// A caller may change what it gets.
func TestResultsOfParamsForShareNoMemory(t *testing.T) {
	for category := range accessRows {
		one := impl.ParamsFor(category)
		two := impl.ParamsFor(category)
		one.Aifs, one.CwMin, one.CwMax, one.Burst = 9, 99, 999, 9999
		for other := range accessRows {
			if p := impl.ParamsFor(other); p != paramsReference(other) {
				t.Errorf("ParamsFor(%d) became %v", other, p)
			}
		}
		if two != paramsReference(category) {
			t.Errorf("two results of ParamsFor(%d) share memory: %v", category, two)
		}
	}
}

func TestCategoryOfPriority(t *testing.T) {
	want := []int{impl.BestEffort, impl.Background, impl.Background, impl.BestEffort, impl.Video, impl.Video, impl.Voice, impl.Voice}
	for priority, category := range want {
		if got := impl.CategoryOfPriority(priority); got != category {
			t.Errorf("CategoryOfPriority(%d) is %d, not %d", priority, got, category)
		}
	}
	for _, priority := range notPriorities {
		if got := impl.CategoryOfPriority(priority); got != -1 {
			t.Errorf("CategoryOfPriority(%d) is %d", priority, got)
		}
	}
}

func TestCategoryName(t *testing.T) {
	for category, name := range []string{"background", "best-effort", "video", "voice"} {
		if got := impl.CategoryName(category); got != name {
			t.Errorf("CategoryName(%d) is %q, not %q", category, got, name)
		}
	}
	for _, category := range notCategories {
		if got := impl.CategoryName(category); got != "" {
			t.Errorf("CategoryName(%d) is %q", category, got)
		}
	}
}

// Fixed values, computed apart from the program: each row has CwMin and CwMax, and then pairs of a window and the next one.
func TestNextWindow(t *testing.T) {
	for _, c := range []struct{ low, high, window, want int }{
		// the categories
		{15, 1023, 14, 15}, {15, 1023, 15, 31}, {15, 1023, 16, 33}, {15, 1023, 31, 63}, {15, 1023, 63, 127}, {15, 1023, 127, 255}, {15, 1023, 255, 511},
		{15, 1023, 510, 1021}, {15, 1023, 511, 1023}, {15, 1023, 512, 1023}, {15, 1023, 1022, 1023}, {15, 1023, 1023, 1023}, {15, 1023, 1024, 15},
		{7, 15, 6, 7}, {7, 15, 7, 15}, {7, 15, 8, 15}, {7, 15, 14, 15}, {7, 15, 15, 15}, {7, 15, 16, 7},
		{3, 7, 2, 3}, {3, 7, 3, 7}, {3, 7, 4, 7}, {3, 7, 5, 7}, {3, 7, 6, 7}, {3, 7, 7, 7}, {3, 7, 8, 3},
		// a single window
		{1, 1, 0, 1}, {1, 1, 1, 1}, {1, 1, 2, 1}, {31, 31, 30, 31}, {31, 31, 31, 31}, {31, 31, 32, 31}, {31, 31, 15, 31}, {1023, 1023, 511, 1023}, {1023, 1023, 1023, 1023},
		// all windows, and numbers that are none
		{1, 1023, 0, 1}, {1, 1023, 1, 3}, {1, 1023, 2, 5}, {1, 1023, 3, 7}, {1, 1023, 4, 9}, {1, 1023, 100, 201}, {1, 1023, 509, 1019}, {1, 1023, 510, 1021},
		{1, 1023, 511, 1023}, {1, 1023, 512, 1023}, {1, 1023, 1022, 1023}, {1, 1023, 1023, 1023}, {1, 1023, 1024, 1}, {1, 1023, -1, 1},
		// far out of range
		{3, 7, 0, 3}, {3, 7, -1, 3}, {3, 7, -3, 3}, {3, 7, math.MinInt, 3}, {3, 7, math.MinInt + 3, 3}, {3, 7, math.MaxInt, 3}, {3, 7, math.MaxInt / 2, 3}, {3, 7, 1<<62 + 1, 3},
		{15, 1023, 0, 15}, {15, 1023, -1, 15}, {15, 1023, math.MinInt, 15}, {15, 1023, math.MaxInt, 15}, {15, 1023, 1<<32 + 31, 15},
	} {
		expectNext(t, impl.AccessParams{Aifs: 2, CwMin: c.low, CwMax: c.high, Burst: 20}, c.window, c.want)
	}
}

func TestNextWindowAgainstReference(t *testing.T) {
	windows := windowsAround()
	for _, p := range allParams() {
		for _, window := range windows {
			expectNext(t, p, window, nextWindowReference(p, window))
		}
	}
}

// From each number in the range, the next one is in the range, and greater unless the greatest one is reached.
func TestNextWindowGrows(t *testing.T) {
	for _, p := range allParams() {
		for window := p.CwMin; window <= p.CwMax; window++ {
			next := impl.NextWindow(p, window)
			if next > p.CwMax || next < window || next == window && window != p.CwMax {
				t.Errorf("NextWindow(%v, %d) is %d", p, window, next)
			}
		}
	}
}

func TestWindowsOfInvalidParams(t *testing.T) {
	windows := []int{0, -1, 1, 2, 3, 5, 7, 8, 15, 31, 511, 1023, 1024, math.MinInt, math.MaxInt}
	failures := []int{0, -1, 1, 2, 19, 20, 21, math.MinInt, math.MaxInt}
	for _, p := range append(wrongParams(), impl.AccessParams{}) {
		for _, window := range append([]int{p.CwMin, p.CwMax, p.CwMin - 1, p.CwMax + 1}, windows...) {
			expectNext(t, p, window, 0)
		}
		for _, n := range failures {
			expectAfter(t, p, n, 0)
		}
	}
}

// Fixed values, computed apart from the program: the windows after 0, 1, 2, ... failures.
func TestWindowAfter(t *testing.T) {
	for _, windows := range [][]int{
		{15, 31, 63, 127, 255, 511, 1023, 1023}, {7, 15, 15, 15}, {3, 7, 7, 7},
		{1, 1}, {31, 31, 31}, {1023, 1023}, {1, 3, 3}, {511, 1023, 1023}, {1, 3, 7, 15, 31, 63, 127, 255, 511, 1023, 1023},
	} {
		last := windows[len(windows)-1]
		p := impl.AccessParams{Aifs: 2, CwMin: windows[0], CwMax: last, Burst: 20}
		for n, want := range windows {
			expectAfter(t, p, n, want)
		}
		for n := len(windows); n <= 25; n++ {
			expectAfter(t, p, n, last)
		}
		for _, n := range []int{-1, -2, -20, -21, -1<<32 + 2, math.MinInt, math.MinInt + 1, math.MinInt + 5} {
			expectAfter(t, p, n, windows[0])
		}
		for _, n := range []int{21, 22, 100, 256, 1 << 32, 1<<32 + 1, math.MaxInt - 1, math.MaxInt} {
			expectAfter(t, p, n, last)
		}
	}
}

func TestWindowAfterAgainstReference(t *testing.T) {
	for _, p := range allParams() {
		for _, n := range failureCounts() {
			expectAfter(t, p, n, windowAfterReference(p, n))
		}
	}
}

// Each failure leads from one window to the next, never back, and 20 failures lead to the greatest one.
func TestWindowAfterMakesTheSteps(t *testing.T) {
	for _, p := range allParams() {
		expectAfter(t, p, 0, p.CwMin)
		for n := range 20 {
			window, next := impl.WindowAfter(p, n), impl.WindowAfter(p, n+1)
			expectNext(t, p, window, next)
			if next < window || next > p.CwMax {
				t.Errorf("the window after %d failures is %d and then %d with %v", n, window, next, p)
			}
		}
		expectAfter(t, p, 20, p.CwMax)
		expectNext(t, p, impl.WindowAfter(p, 20), p.CwMax)
	}
}

// Promise 14: a more urgent category waits for no more idle slots, after any number of failures.
func TestMoreUrgentCategoriesWaitNoLonger(t *testing.T) {
	for category := impl.Background; category < impl.Voice; category++ {
		p, urgent := impl.ParamsFor(category), impl.ParamsFor(category+1)
		if urgent.Aifs > p.Aifs || urgent.CwMin > p.CwMin || urgent.CwMax > p.CwMax {
			t.Errorf("category %d waits longer than category %d: %v and %v", category+1, category, urgent, p)
		}
		for _, n := range failureCounts() {
			window, shorter := impl.WindowAfter(p, n), impl.WindowAfter(urgent, n)
			if shorter > window || shorter == 0 {
				t.Errorf("after %d failures category %d waits up to %d slots, and category %d up to %d", n, category+1, shorter, category, window)
			}
		}
		expectWinner(t, []int{category, category + 1}, category+1)
		expectWinner(t, []int{category + 1, category}, category+1)
	}
}

func TestInternalWinner(t *testing.T) {
	for _, c := range []struct {
		ready []int
		want  int
	}{
		{nil, -1}, {[]int{}, -1}, {[]int{0}, 0}, {[]int{1}, 1}, {[]int{2}, 2}, {[]int{3}, 3}, {[]int{0, 0}, 0}, {[]int{1, 1}, 1}, {[]int{2, 2}, 2}, {[]int{3, 3}, 3},
		{[]int{0, 1, 2, 3}, 3}, {[]int{3, 2, 1, 0}, 3}, {[]int{0, 2, 1}, 2}, {[]int{1, 0}, 1}, {[]int{0, 1, 0}, 1}, {[]int{2, 0, 1, 2}, 2},
		// what is no category before, between and behind categories
		{[]int{-1, 0, 1}, 1}, {[]int{4, 0, 2}, 2}, {[]int{1, 9, 0}, 1}, {[]int{0, -1}, 0}, {[]int{2, 4}, 2}, {[]int{9, 0, 4}, 0},
		{[]int{math.MinInt, 1, math.MaxInt}, 1}, {[]int{math.MaxInt, 0, math.MinInt}, 0}, {[]int{2, math.MaxInt, 1, math.MinInt}, 2}, {[]int{256, 257, 0, 1<<32 + 3}, 0},
		// only that
		{[]int{-1}, -1}, {[]int{4}, -1}, {[]int{9}, -1}, {[]int{math.MinInt}, -1}, {[]int{math.MaxInt}, -1}, {[]int{4, -1, 9, 5, -4}, -1}, {[]int{math.MaxInt, math.MinInt}, -1},
	} {
		expectWinner(t, c.ready, c.want)
	}
	expectWinner(t, notCategories, -1)
	for category := range 4 {
		for i := range len(notCategories) + 1 {
			expectWinner(t, slices.Insert(slices.Clone(notCategories), i, category), category)
		}
	}
}

func TestInternalWinnerOfAllShortLists(t *testing.T) {
	for _, ready := range shortLists([]int{-1, 0, 1, 2, 3, 4, 9, math.MinInt, math.MaxInt}, 4) {
		expectWinner(t, ready, winnerReference(ready))
	}
}

func TestInternalWinnerOfManyInAnyOrder(t *testing.T) {
	random := rand.New(rand.NewPCG(14, 1))
	for range 2000 {
		ready := []int{}
		for range random.IntN(60) {
			ready = append(ready, random.IntN(30)-20)
		}
		want := winnerReference(ready)
		expectWinner(t, ready, want)
		random.Shuffle(len(ready), func(i int, j int) { ready[i], ready[j] = ready[j], ready[i] })
		expectWinner(t, ready, want)
	}
}

func TestInternalWinnerKeepsItsArgument(t *testing.T) {
	for _, ready := range [][]int{{}, {2}, {0, 1, 2, 3}, {3, 2, 1, 0}, {9, 0, -1, 2, 2, 4}, {math.MaxInt, 1, math.MinInt}, notCategories} {
		list := intsWithSpare(ready...)
		one, two := impl.InternalWinner(list), impl.InternalWinner(list)
		if one != two {
			t.Errorf("InternalWinner(%v) is %d and then %d", ready, one, two)
		}
		checkIntsSpare(t, "InternalWinner", list, ready...)
		// Marks behind the list that are categories do not count.
		whole := append(slices.Clone(ready), 3, 3, 3)
		expectWinner(t, whole[:len(ready)], winnerReference(ready))
	}
}

// The calls between two equal calls change nothing.
func TestAccessKeepsNoState(t *testing.T) {
	type answers struct {
		params   impl.AccessParams
		category int
		name     string
		windows  [3]int
	}
	ask := func(n int) answers {
		p := impl.ParamsFor(n)
		windows := [3]int{impl.NextWindow(p, p.CwMin), impl.WindowAfter(p, n), impl.WindowAfter(p, 20)}
		return answers{p, impl.CategoryOfPriority(n), impl.CategoryName(n), windows}
	}
	arguments := slices.Concat(upTo(8), notCategories, notPriorities)
	first := []answers{}
	for _, n := range arguments {
		first = append(first, ask(n))
	}
	for i, n := range slices.Backward(arguments) {
		if got := ask(n); got != first[i] {
			t.Errorf("the answers for %d became %v, not %v", n, got, first[i])
		}
	}
}
