package tests

import (
	"math"
	"math/rand/v2"
	"slices"
	"testing"

	"loop.example/g00511/impl"
)

// mostDraws is the limit of the number of draws.
const mostDraws = 1000000000000

// The lowest bits of some of the numbers out of range are those of a number in range.
var (
	seeds       = []int{0, -1, 1, 5, 77, modulus - 1, modulus, modulus + 1, 1<<40 + 3, math.MinInt, math.MaxInt}
	fewSeeds    = []int{0, -1, 5, math.MinInt, math.MaxInt}
	goodRetries = []int{0, 1, 2, 3, 4, 5, 6, 7}
	notRetries  = []int{-1, 8, -2, -7, 9, 15, 16, 255, 256, 263, 1 << 32, 1<<32 + 3, -1<<32 + 2, math.MinInt, math.MinInt + 1, math.MinInt + 7, math.MaxInt - 1, math.MaxInt}
	goodDraws   = []int{0, 1, 2, 255, 256, 1 << 31, 1 << 32, mostDraws - 1, mostDraws}
	notDraws    = []int{-1, mostDraws + 1, -2, -mostDraws, mostDraws + 2, 2 * mostDraws, 1 << 62, math.MinInt, math.MinInt + 1, math.MaxInt - 1, math.MaxInt}
	// farNumbers are in the range of no field.
	farNumbers = []int{-1, -2, -1023, 1 << 40, 1<<40 + 1, -1<<40 + 1, 1 << 62, math.MinInt, math.MinInt + 1, math.MinInt + 3, math.MaxInt - 1, math.MaxInt}
)

// waitReference computes a wait as chapter 15 says; the hash is made in integers without limit.
func waitReference(seed int, draw int, window int) int {
	if window < 0 || window > 1023 {
		return 0
	}
	h := keyedReference(seed, draw)
	return h * h % modulus % (window + 1)
}

// windowsReference returns the windows after 0 to 20 failures, each once.
func windowsReference(p impl.AccessParams) []int {
	list := []int{}
	for n := range 21 {
		list = append(list, windowAfterReference(p, n))
	}
	return slices.Compact(list)
}

func validBackoffReference(b impl.Backoff) bool {
	return validParamsReference(b.Params) && slices.Contains(windowsReference(b.Params), b.Window) &&
		0 <= b.Wait && b.Wait <= b.Window && 0 <= b.Idle && b.Idle <= b.Params.Aifs &&
		0 <= b.Retries && b.Retries <= 7 && 0 <= b.Draws && b.Draws <= mostDraws
}

func tickReference(b impl.Backoff, busy bool) impl.Backoff {
	idle, wait := b.Idle+1, b.Wait
	if b.Idle == b.Params.Aifs {
		idle, wait = b.Idle, max(b.Wait-1, 0)
	}
	if busy {
		idle, wait = 0, b.Wait
	}
	if validBackoffReference(b) {
		return backoffOf(b.Params, b.Window, wait, idle, b.Retries, b.Draws)
	}
	return b
}

// drawnReference returns the backoff with a new wait for the window.
func drawnReference(b impl.Backoff, seed int, window int, retries int) impl.Backoff {
	return backoffOf(b.Params, window, waitReference(seed, b.Draws, window), 0, retries, min(b.Draws+1, mostDraws))
}

func succeededReference(b impl.Backoff, seed int) impl.Backoff {
	if !validBackoffReference(b) {
		return b
	}
	return drawnReference(b, seed, b.Params.CwMin, 0)
}

func failedReference(b impl.Backoff, seed int) (impl.Backoff, bool) {
	switch {
	case !validBackoffReference(b):
		return b, false
	case b.Retries > 6:
		return drawnReference(b, seed, b.Params.CwMin, 0), false
	}
	return drawnReference(b, seed, min(b.Window+b.Window+1, b.Params.CwMax), b.Retries+1), true
}

func backoffOf(p impl.AccessParams, window int, wait int, idle int, retries int, draws int) impl.Backoff {
	return impl.Backoff{Params: p, Window: window, Wait: wait, Idle: idle, Retries: retries, Draws: draws}
}

// backoffParams returns the parameters of the categories and others, among them some with a single window and some with all windows.
func backoffParams() []impl.AccessParams {
	list := []impl.AccessParams{}
	for _, row := range append(slices.Clone(accessRows), [4]int{1, 7, 7, 1}, [4]int{15, 1, 1, 1000}, [4]int{4, 1023, 1023, 5}, [4]int{3, 1, 1023, 30}, [4]int{5, 31, 127, 8}) {
		list = append(list, rowParams(row))
	}
	return list
}

// backoffs calls visit with valid backoffs of each of the parameters, with each of their windows and every other number at its limits and beside them.
func backoffs(visit func(impl.Backoff)) {
	for _, p := range backoffParams() {
		for _, window := range windowsReference(p) {
			for _, wait := range slices.Compact([]int{0, 1, window}) {
				for _, idle := range slices.Compact([]int{0, p.Aifs - 1, p.Aifs}) {
					for _, retries := range []int{0, 1, 6, 7} {
						for _, draws := range []int{0, 1, mostDraws - 1, mostDraws} {
							visit(backoffOf(p, window, wait, idle, retries, draws))
						}
					}
				}
			}
		}
	}
}

// notWindowsOf returns numbers that are no windows of the parameters, windows of others among them.
func notWindowsOf(p impl.AccessParams) []int {
	windows := windowsReference(p)
	list := append(slices.Clone(notWindows), p.CwMin-1, p.CwMax+1, p.CwMin/2, 2*p.CwMax+1)
	for _, window := range slices.Concat(allWindows, windows) {
		list = append(list, window-1, window, window+1)
	}
	return slices.DeleteFunc(list, func(window int) bool { return slices.Contains(windows, window) })
}

// spoiltBackoffs returns backoffs that are invalid in one field alone, the other fields being those of b, which is valid.
func spoiltBackoffs(b impl.Backoff) []impl.Backoff {
	list := []impl.Backoff{}
	add := func(field *int, wrong ...int) {
		right := *field
		for _, n := range wrong {
			*field = n
			list = append(list, b)
		}
		*field = right
	}
	add(&b.Params.Burst, notBursts...)
	add(&b.Params.Aifs, notAifs...)
	add(&b.Params.CwMin, notWindows...)
	add(&b.Params.CwMax, notWindows...)
	add(&b.Wait, b.Window+1, b.Window+2, 2*b.Window+1, 1024)
	add(&b.Wait, farNumbers...)
	add(&b.Idle, b.Params.Aifs+1, b.Params.Aifs+2, 16)
	add(&b.Idle, farNumbers...)
	add(&b.Retries, notRetries...)
	add(&b.Draws, notDraws...)
	b.Wait = 0
	add(&b.Window, notWindowsOf(b.Params)...)
	return list
}

// allSpoiltBackoffs returns backoffs that are invalid in one field alone, for each of the parameters and windows, and the zero one.
func allSpoiltBackoffs() []impl.Backoff {
	list := []impl.Backoff{{}}
	for i, p := range backoffParams() {
		for j, window := range windowsReference(p) {
			wait, idle := window*(i%2), min(i+j, p.Aifs)
			list = append(list, spoiltBackoffs(backoffOf(p, window, wait, idle, goodRetries[(i+j)%8], goodDraws[(2*i+j)%9]))...)
		}
		// What would be ready or due if it were valid.
		list = append(list, spoiltBackoffs(backoffOf(p, p.CwMin, 0, p.Aifs, 0, 1))...)
		list = append(list, spoiltBackoffs(backoffOf(p, p.CwMax, p.CwMax, 0, 7, mostDraws))...)
	}
	return list
}

func expectValidBackoff(t *testing.T, b impl.Backoff, want bool) {
	t.Helper()
	if got := impl.IsValidBackoff(b); got != want {
		t.Errorf("IsValidBackoff(%+v) is %v", b, got)
	}
}

func expectWait(t *testing.T, seed int, draw int, window int, want int) {
	t.Helper()
	if got := impl.RandomWait(seed, draw, window); got != want {
		t.Errorf("RandomWait(%d, %d, %d) is %d, not %d", seed, draw, window, got, want)
	}
}

func expectTick(t *testing.T, b impl.Backoff, busy bool, want impl.Backoff) {
	t.Helper()
	if got := impl.TickBackoff(b, busy); got != want {
		t.Errorf("TickBackoff(%+v, %v) is %+v, not %+v", b, busy, got, want)
	}
}

// expectSlots checks SlotsUntilReady, and that IsReady is true just if no slot is left.
func expectSlots(t *testing.T, b impl.Backoff, want int) {
	t.Helper()
	if got := impl.SlotsUntilReady(b); got != want {
		t.Errorf("SlotsUntilReady(%+v) is %d, not %d", b, got, want)
	}
	if got := impl.IsReady(b); got != (want == 0) {
		t.Errorf("IsReady(%+v) is %v", b, got)
	}
}

func expectSucceeded(t *testing.T, b impl.Backoff, seed int, want impl.Backoff) {
	t.Helper()
	if got := impl.BackoffSucceeded(b, seed); got != want {
		t.Errorf("BackoffSucceeded(%+v, %d) is %+v, not %+v", b, seed, got, want)
	}
}

func expectFailed(t *testing.T, b impl.Backoff, seed int, want impl.Backoff, again bool) {
	t.Helper()
	if got, ok := impl.BackoffFailed(b, seed); got != want || ok != again {
		t.Errorf("BackoffFailed(%+v, %d) is %+v, %v, not %+v, %v", b, seed, got, ok, want, again)
	}
}

func TestConstantsOfBackoff(t *testing.T) {
	if impl.MaxRetries != 7 || impl.MaxValue != mostDraws {
		t.Error(impl.MaxRetries, impl.MaxValue)
	}
}

// Fixed values, computed apart from the program: each row has the waits for the windows 1, 1022 and 1023.
func TestRandomWait(t *testing.T) {
	for _, c := range []struct{ seed, draw, one, most, greatest int }{
		{0, 0, 1, 584, 117}, {0, 1, 0, 708, 634}, {0, -1, 1, 881, 293}, {0, modulus, 1, 584, 117}, {0, math.MinInt, 0, 576, 138}, {0, math.MaxInt, 0, 708, 634},
		{1, 0, 1, 351, 865}, {1, 1, 1, 670, 815}, {1, -1, 0, 453, 584}, {1, modulus, 1, 351, 865}, {1, math.MinInt, 1, 975, 997}, {1, math.MaxInt, 1, 670, 815},
		{-1, 0, 0, 740, 390}, {-1, 1, 0, 669, 450}, {-1, -1, 1, 209, 1023}, {-1, modulus, 0, 740, 390}, {-1, math.MinInt, 0, 98, 302}, {-1, math.MaxInt, 0, 669, 450},
		{modulus, 0, 1, 584, 117}, {modulus, 1, 0, 708, 634}, {modulus, -1, 1, 881, 293}, {modulus, math.MinInt, 0, 576, 138}, {modulus, math.MaxInt, 0, 708, 634},
		{math.MinInt, 0, 0, 817, 662}, {math.MinInt, 1, 1, 551, 265}, {math.MinInt, -1, 0, 481, 728}, {math.MinInt, math.MinInt, 0, 565, 464}, {math.MinInt, math.MaxInt, 1, 551, 265},
		{math.MaxInt, 0, 1, 351, 865}, {math.MaxInt, 1, 1, 670, 815}, {math.MaxInt, -1, 0, 453, 584}, {math.MaxInt, math.MinInt, 1, 975, 997}, {math.MaxInt, math.MaxInt, 1, 670, 815},
	} {
		expectWait(t, c.seed, c.draw, 1, c.one)
		expectWait(t, c.seed, c.draw, 1022, c.most)
		expectWait(t, c.seed, c.draw, 1023, c.greatest)
		for _, window := range []int{-1, 0, 1024, math.MinInt, math.MaxInt} {
			expectWait(t, c.seed, c.draw, window, 0)
		}
	}
}

func TestRandomWaitAgainstReference(t *testing.T) {
	windows := slices.Concat(upTo(1030), farNumbers, notWindows)
	for _, seed := range seeds {
		for _, draw := range []int{0, 1, -1, modulus, mostDraws, math.MinInt, math.MaxInt} {
			// The answers for all windows follow from that for one that leaves the number whole.
			h := keyedReference(seed, draw)
			number := h * h % modulus
			for _, window := range windows {
				want := 0
				if window >= 0 && window <= 1023 {
					want = number % (window + 1)
				}
				expectWait(t, seed, draw, window, want)
			}
		}
	}
}

func TestRandomWaitIsInItsRange(t *testing.T) {
	random := rand.New(rand.NewPCG(15, 1))
	for range 20000 {
		seed, draw, window := int(random.Uint64()), int(random.Uint64()), random.IntN(1024)
		wait := impl.RandomWait(seed, draw, window)
		if wait < 0 || wait > window {
			t.Fatalf("RandomWait(%d, %d, %d) is %d", seed, draw, window, wait)
		}
		expectWait(t, seed, draw, window, waitReference(seed, draw, window))
	}
	// Of small windows, every wait from 0 to the window occurs.
	for window := range 16 {
		occurs := map[int]bool{}
		for draw := range 500 {
			occurs[impl.RandomWait(5, draw, window)] = true
		}
		if len(occurs) != window+1 {
			t.Errorf("%d waits occur with the window %d", len(occurs), window)
		}
	}
}

// Fixed values, computed apart from the program: the waits of Background, BestEffort, Video and Voice.
func TestNewBackoff(t *testing.T) {
	for _, c := range []struct {
		seed  int
		waits [4]int
	}{
		{0, [4]int{5, 5, 5, 1}}, {-1, [4]int{6, 6, 6, 2}}, {1, [4]int{1, 1, 1, 1}}, {2, [4]int{12, 12, 4, 0}}, {5, [4]int{1, 1, 1, 1}}, {77, [4]int{5, 5, 5, 1}},
		{modulus - 1, [4]int{6, 6, 6, 2}}, {modulus, [4]int{5, 5, 5, 1}}, {modulus + 1, [4]int{1, 1, 1, 1}}, {math.MinInt, [4]int{6, 6, 6, 2}}, {math.MaxInt, [4]int{1, 1, 1, 1}},
	} {
		for category, wait := range c.waits {
			row := accessRows[category]
			b, want := impl.NewBackoff(category, c.seed), backoffOf(rowParams(row), row[1], wait, 0, 0, 1)
			if b != want {
				t.Errorf("NewBackoff(%d, %d) is %+v, not %+v", category, c.seed, b, want)
			}
			expectValidBackoff(t, b, true)
			expectSlots(t, b, row[0]+wait)
		}
	}
}

func TestNewBackoffAgainstReference(t *testing.T) {
	for seed := -100; seed <= 1000; seed++ {
		for category, row := range accessRows {
			b, want := impl.NewBackoff(category, seed), backoffOf(rowParams(row), row[1], waitReference(seed, 0, row[1]), 0, 0, 1)
			if b != want {
				t.Errorf("NewBackoff(%d, %d) is %+v, not %+v", category, seed, b, want)
			}
			expectValidBackoff(t, b, true)
		}
	}
}

func TestNewBackoffOfNoCategory(t *testing.T) {
	for _, category := range notCategories {
		for _, seed := range seeds {
			b := impl.NewBackoff(category, seed)
			if b != (impl.Backoff{}) {
				t.Errorf("NewBackoff(%d, %d) is %+v", category, seed, b)
			}
			expectValidBackoff(t, b, false)
		}
	}
}

// Fixed values, with the parameters of Background: Window, Wait, Idle, Retries and Draws.
func TestIsValidBackoff(t *testing.T) {
	for _, c := range []struct {
		numbers [5]int
		want    bool
	}{
		{[5]int{15, 0, 0, 0, 0}, true}, {[5]int{15, 15, 7, 7, mostDraws}, true}, {[5]int{1023, 1023, 7, 7, mostDraws}, true}, {[5]int{127, 100, 3, 3, 4}, true},
		// Window
		{[5]int{14, 0, 0, 0, 0}, false}, {[5]int{16, 0, 0, 0, 0}, false}, {[5]int{30, 0, 0, 0, 0}, false}, {[5]int{31, 0, 0, 0, 0}, true}, {[5]int{32, 0, 0, 0, 0}, false},
		{[5]int{7, 0, 0, 0, 0}, false}, {[5]int{1, 0, 0, 0, 0}, false}, {[5]int{0, 0, 0, 0, 0}, false}, {[5]int{-1, 0, 0, 0, 0}, false}, {[5]int{33, 0, 0, 0, 0}, false},
		{[5]int{1022, 0, 0, 0, 0}, false}, {[5]int{1023, 0, 0, 0, 0}, true}, {[5]int{1024, 0, 0, 0, 0}, false}, {[5]int{2047, 0, 0, 0, 0}, false},
		{[5]int{math.MinInt, 0, 0, 0, 0}, false}, {[5]int{math.MaxInt, 0, 0, 0, 0}, false},
		// Wait
		{[5]int{31, -1, 0, 0, 0}, false}, {[5]int{31, 0, 0, 0, 0}, true}, {[5]int{31, 31, 0, 0, 0}, true}, {[5]int{31, 32, 0, 0, 0}, false}, {[5]int{15, 16, 0, 0, 0}, false},
		{[5]int{31, math.MinInt, 0, 0, 0}, false}, {[5]int{31, math.MaxInt, 0, 0, 0}, false},
		// Idle
		{[5]int{31, 5, -1, 0, 0}, false}, {[5]int{31, 5, 1, 0, 0}, true}, {[5]int{31, 5, 7, 0, 0}, true}, {[5]int{31, 5, 8, 0, 0}, false},
		{[5]int{31, 5, math.MinInt, 0, 0}, false}, {[5]int{31, 5, math.MaxInt, 0, 0}, false},
		// Retries, which need not fit the window
		{[5]int{31, 5, 2, -1, 0}, false}, {[5]int{31, 5, 2, 0, 0}, true}, {[5]int{31, 5, 2, 7, 0}, true}, {[5]int{31, 5, 2, 8, 0}, false},
		{[5]int{31, 5, 2, math.MinInt, 0}, false}, {[5]int{31, 5, 2, math.MaxInt, 0}, false},
		// Draws
		{[5]int{31, 5, 2, 1, -1}, false}, {[5]int{31, 5, 2, 1, 0}, true}, {[5]int{31, 5, 2, 1, mostDraws}, true}, {[5]int{31, 5, 2, 1, mostDraws + 1}, false},
		{[5]int{31, 5, 2, 1, math.MinInt}, false}, {[5]int{31, 5, 2, 1, math.MaxInt}, false},
	} {
		n := c.numbers
		expectValidBackoff(t, backoffOf(rowParams([4]int{7, 15, 1023, 10}), n[0], n[1], n[2], n[3], n[4]), c.want)
		// With 0 as Aifs or Burst, nothing is valid.
		expectValidBackoff(t, backoffOf(rowParams([4]int{0, 15, 1023, 10}), n[0], n[1], n[2], n[3], n[4]), false)
		expectValidBackoff(t, backoffOf(rowParams([4]int{7, 15, 1023, 0}), n[0], n[1], n[2], n[3], n[4]), false)
	}
	expectValidBackoff(t, impl.Backoff{}, false)
	expectValidBackoff(t, impl.Backoff{Params: rowParams(accessRows[0])}, false)
}

// Every window up to beyond the greatest one, of which only those that follow from failures are accepted.
func TestIsValidBackoffOfAllWindows(t *testing.T) {
	for _, p := range append(allParams(), backoffParams()...) {
		windows := windowsReference(p)
		for window := -2; window <= 1100; window++ {
			expectValidBackoff(t, backoffOf(p, window, 0, 0, 0, 0), slices.Contains(windows, window))
		}
		for _, window := range notWindowsOf(p) {
			expectValidBackoff(t, backoffOf(p, window, 0, 0, 0, 0), false)
			expectValidBackoff(t, backoffOf(p, window, max(window, 0), 1, 2, 3), false)
		}
		for n := range 21 {
			window := impl.WindowAfter(p, n)
			expectValidBackoff(t, backoffOf(p, window, window, p.Aifs, 7, mostDraws), true)
		}
	}
}

func TestIsValidBackoffOfEachField(t *testing.T) {
	for _, p := range backoffParams() {
		for _, window := range windowsReference(p) {
			for wait := range window + 1 {
				expectValidBackoff(t, backoffOf(p, window, wait, 0, 0, 1), true)
			}
			for idle := range p.Aifs + 1 {
				expectValidBackoff(t, backoffOf(p, window, 1, idle, 0, 1), true)
			}
			for _, retries := range goodRetries {
				expectValidBackoff(t, backoffOf(p, window, 1, 1, retries, 1), true)
			}
			for _, draws := range goodDraws {
				expectValidBackoff(t, backoffOf(p, window, 1, 1, 1, draws), true)
			}
		}
	}
	for _, b := range allSpoiltBackoffs() {
		expectValidBackoff(t, b, false)
	}
	for _, p := range wrongParams() {
		for _, window := range []int{p.CwMin, p.CwMax, 1, 15, 1023} {
			expectValidBackoff(t, backoffOf(p, window, 0, 0, 0, 0), false)
		}
	}
}

func TestIsValidBackoffAgainstReference(t *testing.T) {
	backoffs(func(b impl.Backoff) {
		expectValidBackoff(t, b, true)
	})
	numbers := []int{-1, 0, 1, 2, 3, 4, 7, 8, 15, 16, math.MinInt, math.MaxInt}
	for _, p := range []impl.AccessParams{rowParams(accessRows[2]), rowParams(accessRows[3]), rowParams([4]int{1, 7, 7, 1}), rowParams([4]int{2, 7, 3, 20})} {
		for _, window := range numbers {
			for _, wait := range numbers {
				for _, idle := range numbers {
					for _, retries := range numbers {
						b := backoffOf(p, window, wait, idle, retries, 1)
						expectValidBackoff(t, b, validBackoffReference(b))
					}
				}
			}
		}
	}
}

// Fixed values, with the parameters of Voice, an Aifs of 2 and a window of 7: Wait and Idle before and after a slot.
func TestTickBackoff(t *testing.T) {
	p := rowParams(accessRows[3])
	for _, c := range []struct {
		wait, idle         int
		busy               bool
		nextWait, nextIdle int
	}{
		{5, 0, false, 5, 1}, {5, 1, false, 5, 2}, {5, 2, false, 4, 2}, {1, 2, false, 0, 2}, {0, 2, false, 0, 2}, {7, 2, false, 6, 2},
		{0, 0, false, 0, 1}, {0, 1, false, 0, 2}, {7, 0, false, 7, 1}, {1, 1, false, 1, 2},
		{5, 0, true, 5, 0}, {5, 1, true, 5, 0}, {5, 2, true, 5, 0}, {1, 2, true, 1, 0}, {0, 2, true, 0, 0}, {0, 0, true, 0, 0}, {7, 2, true, 7, 0},
	} {
		for _, retries := range goodRetries {
			for _, draws := range goodDraws {
				expectTick(t, backoffOf(p, 7, c.wait, c.idle, retries, draws), c.busy, backoffOf(p, 7, c.nextWait, c.nextIdle, retries, draws))
			}
		}
	}
}

func TestTickBackoffAgainstReference(t *testing.T) {
	backoffs(func(b impl.Backoff) {
		for idle := range b.Params.Aifs + 1 {
			b.Idle = idle
			for _, busy := range []bool{false, true} {
				next := impl.TickBackoff(b, busy)
				expectTick(t, b, busy, tickReference(b, busy))
				expectValidBackoff(t, next, true)
			}
		}
	})
}

// A busy slot changes Idle alone.
func TestTickBackoffOfBusySlots(t *testing.T) {
	backoffs(func(b impl.Backoff) {
		next := impl.TickBackoff(b, true)
		if next.Idle != 0 {
			t.Errorf("after a busy slot Idle is %d", next.Idle)
		}
		next.Idle = b.Idle
		if next != b {
			t.Errorf("a busy slot changes %+v to %+v", b, next)
		}
	})
}

// Invalid backoffs are returned as they are, and are never ready.
func TestInvalidBackoffs(t *testing.T) {
	for _, b := range allSpoiltBackoffs() {
		expectTick(t, b, false, b)
		expectTick(t, b, true, b)
		expectSlots(t, b, -1)
		for _, seed := range fewSeeds {
			expectSucceeded(t, b, seed, b)
			expectFailed(t, b, seed, b, false)
		}
	}
}

// Fixed values, with the parameters of Background, an Aifs of 7 and a window of 31.
func TestSlotsUntilReady(t *testing.T) {
	p := rowParams(accessRows[0])
	for _, c := range []struct{ wait, idle, want int }{
		{0, 7, 0}, {0, 6, 1}, {0, 0, 7}, {1, 7, 1}, {1, 6, 2}, {1, 0, 8}, {30, 7, 30}, {31, 7, 31}, {31, 6, 32}, {31, 1, 37}, {31, 0, 38}, {5, 3, 9},
		{32, 7, -1}, {-1, 7, -1}, {-1, 6, -1}, {0, 8, -1}, {1, 8, -1}, {0, -1, -1}, {31, -1, -1}, {math.MinInt, 7, -1}, {math.MaxInt, 7, -1}, {0, math.MinInt, -1}, {0, math.MaxInt, -1},
	} {
		expectSlots(t, backoffOf(p, 31, c.wait, c.idle, 1, 2), c.want)
	}
	expectSlots(t, backoffOf(p, 1023, 1023, 0, 7, mostDraws), 1030)
	expectSlots(t, backoffOf(rowParams([4]int{15, 1023, 1023, 1}), 1023, 1023, 0, 0, 0), 1038)
	expectSlots(t, backoffOf(p, 7, 0, 7, 0, 0), -1)
	expectSlots(t, impl.Backoff{}, -1)
}

func TestSlotsUntilReadyAgainstReference(t *testing.T) {
	backoffs(func(b impl.Backoff) {
		expectSlots(t, b, b.Wait+b.Params.Aifs-b.Idle)
	})
}

// expectReadyAfter checks that the backoff is ready after just this number of idle slots, and stays ready, and returns it then.
func expectReadyAfter(t *testing.T, b impl.Backoff, slots int) impl.Backoff {
	t.Helper()
	for left := slots; left > 0; left-- {
		expectSlots(t, b, left)
		b = impl.TickBackoff(b, false)
	}
	expectSlots(t, b, 0)
	expectTick(t, b, false, b)
	return b
}

// Promise 15: a station is ready after as many idle slots as stated, and not earlier.
func TestReadyExactlyAfterBackoff(t *testing.T) {
	for _, p := range backoffParams() {
		for _, window := range windowsReference(p) {
			for _, wait := range []int{0, 1, window / 2, window} {
				for idle := range p.Aifs + 1 {
					b := backoffOf(p, window, wait, idle, 3, 4)
					last := expectReadyAfter(t, b, p.Aifs-idle+wait)
					if last != backoffOf(p, window, 0, p.Aifs, 3, 4) {
						t.Errorf("%+v became %+v", b, last)
					}
				}
			}
		}
	}
}

// After a busy slot, Aifs idle slots precede those that the same Wait counts.
func TestBusySlotsDelayBackoff(t *testing.T) {
	for _, p := range backoffParams() {
		b := backoffOf(p, p.CwMax, min(p.CwMax, 9), 0, 0, 1)
		total := p.Aifs + b.Wait
		for before := range total + 1 {
			x := b
			for range before {
				x = impl.TickBackoff(x, false)
			}
			left := min(b.Wait, total-before)
			for range 3 {
				x = impl.TickBackoff(x, true)
				if x.Wait != left || x.Idle != 0 {
					t.Errorf("after %d idle slots and a busy one, %+v became %+v", before, b, x)
				}
				expectSlots(t, x, p.Aifs+left)
			}
			expectReadyAfter(t, x, p.Aifs+left)
		}
	}
}

// isReadyAfter reports whether a wait from the beginning is over: of each run of idle slots, those beyond Aifs count.
func isReadyAfter(aifs int, wait int, busy []bool) bool {
	counted, run := 0, 0
	for _, isBusy := range busy {
		run++
		if isBusy {
			run = 0
		}
		if run > aifs {
			counted++
		}
	}
	return run >= aifs && counted >= wait
}

// Promise 15 with every order of busy and idle slots.
func TestReadyAfterAllShortOrdersOfSlots(t *testing.T) {
	p := rowParams(accessRows[3])
	for length := range 12 {
		for _, bits := range allBitStrings(length) {
			busy := []bool{}
			for _, bit := range bits {
				busy = append(busy, bit == 1)
			}
			for wait := range p.CwMin + 1 {
				b := backoffOf(p, p.CwMin, wait, 0, 0, 1)
				for _, isBusy := range busy {
					b = impl.TickBackoff(b, isBusy)
				}
				if got, want := impl.IsReady(b), isReadyAfter(p.Aifs, wait, busy); got != want {
					t.Errorf("IsReady is %v after the slots %v with the wait %d", got, bits, wait)
				}
			}
		}
	}
}

func TestReadyAfterRandomSlots(t *testing.T) {
	random := rand.New(rand.NewPCG(15, 2))
	for range 200 {
		p := backoffParams()[random.IntN(len(backoffParams()))]
		window := impl.WindowAfter(p, random.IntN(21))
		wait := random.IntN(min(window, 40) + 1)
		b, busy := backoffOf(p, window, wait, 0, 0, 1), []bool{}
		for range 200 {
			isBusy := random.IntN(12) == 0
			b, busy = impl.TickBackoff(b, isBusy), append(busy, isBusy)
			if got, want := impl.IsReady(b), isReadyAfter(p.Aifs, wait, busy); got != want {
				t.Fatalf("IsReady is %v after the slots %v with the wait %d and %+v", got, busy, wait, p)
			}
		}
	}
}

// Fixed values, computed apart from the program, with the parameters of Voice.
func TestBackoffSucceeded(t *testing.T) {
	p := rowParams(accessRows[3])
	for _, c := range []struct{ seed, draws, wait, nextDraws int }{
		{0, 0, 1, 1}, {0, 1, 2, 2}, {0, mostDraws - 1, 1, mostDraws}, {0, mostDraws, 0, mostDraws},
		{-1, 0, 2, 1}, {-1, 1, 2, 2}, {-1, mostDraws - 1, 3, mostDraws}, {-1, mostDraws, 1, mostDraws},
		{5, 0, 1, 1}, {5, 1, 3, 2}, {5, mostDraws - 1, 3, mostDraws}, {5, mostDraws, 0, mostDraws},
		{math.MinInt, 0, 2, 1}, {math.MinInt, 1, 1, 2}, {math.MinInt, mostDraws - 1, 3, mostDraws}, {math.MinInt, mostDraws, 0, mostDraws},
		{math.MaxInt, 0, 1, 1}, {math.MaxInt, 1, 3, 2}, {math.MaxInt, mostDraws - 1, 1, mostDraws}, {math.MaxInt, mostDraws, 1, mostDraws},
	} {
		want := backoffOf(p, 3, c.wait, 0, 0, c.nextDraws)
		for _, retries := range goodRetries {
			expectSucceeded(t, backoffOf(p, 3, 0, 2, retries, c.draws), c.seed, want)
			expectSucceeded(t, backoffOf(p, 7, 5, 1, retries, c.draws), c.seed, want)
			expectSucceeded(t, backoffOf(p, 7, 7, 0, retries, c.draws), c.seed, want)
		}
		// The frame is given up after the last retry only.
		expectFailed(t, backoffOf(p, 7, 0, 2, 7, c.draws), c.seed, want, false)
		expectFailed(t, backoffOf(p, 3, 3, 1, 7, c.draws), c.seed, want, false)
	}
}

// Fixed values, computed apart from the program, with the parameters of BestEffort: the waits for the windows 31 and 1023.
func TestBackoffFailed(t *testing.T) {
	p := rowParams(accessRows[1])
	for _, c := range []struct{ seed, draws, first, last, nextDraws int }{
		{0, 0, 21, 117, 1}, {0, 1, 26, 634, 2}, {0, mostDraws - 1, 17, 177, mostDraws}, {0, mostDraws, 0, 864, mostDraws},
		{-1, 0, 6, 390, 1}, {-1, 1, 2, 450, 2}, {-1, mostDraws - 1, 11, 203, mostDraws}, {-1, mostDraws, 17, 433, mostDraws},
		{77, 0, 21, 117, 1}, {77, 1, 14, 1006, 2}, {77, mostDraws - 1, 18, 818, mostDraws}, {77, mostDraws, 20, 852, mostDraws},
		{math.MinInt, 0, 22, 662, 1}, {math.MinInt, 1, 9, 265, 2}, {math.MinInt, mostDraws - 1, 3, 227, mostDraws}, {math.MinInt, mostDraws, 0, 0, mostDraws},
		{math.MaxInt, 0, 1, 865, 1}, {math.MaxInt, 1, 15, 815, 2}, {math.MaxInt, mostDraws - 1, 21, 149, mostDraws}, {math.MaxInt, mostDraws, 13, 269, mostDraws},
	} {
		for retries := range 7 {
			expectFailed(t, backoffOf(p, 15, 0, 3, retries, c.draws), c.seed, backoffOf(p, 31, c.first, 0, retries+1, c.nextDraws), true)
			expectFailed(t, backoffOf(p, 15, 15, 1, retries, c.draws), c.seed, backoffOf(p, 31, c.first, 0, retries+1, c.nextDraws), true)
			expectFailed(t, backoffOf(p, 511, 0, 3, retries, c.draws), c.seed, backoffOf(p, 1023, c.last, 0, retries+1, c.nextDraws), true)
			expectFailed(t, backoffOf(p, 1023, 9, 0, retries, c.draws), c.seed, backoffOf(p, 1023, c.last, 0, retries+1, c.nextDraws), true)
		}
	}
}

// The answers of both are what the chapter says, and valid.
func TestOutcomesAgainstReference(t *testing.T) {
	backoffs(func(b impl.Backoff) {
		for _, seed := range fewSeeds {
			expectSucceeded(t, b, seed, succeededReference(b, seed))
			want, again := failedReference(b, seed)
			expectFailed(t, b, seed, want, again)
			next, _ := impl.BackoffFailed(b, seed)
			expectValidBackoff(t, next, true)
			expectValidBackoff(t, impl.BackoffSucceeded(b, seed), true)
		}
	})
}

// Fixed values, computed apart from the program: the first wait, and the windows and waits after each of nine failures, the eighth of which is the last one of its frame.
func TestFailuresInARow(t *testing.T) {
	for _, c := range []struct {
		category, seed, wait int
		steps                [9][2]int
	}{
		{impl.Background, 5, 1, [9][2]int{{31, 19}, {63, 26}, {127, 119}, {255, 9}, {511, 208}, {1023, 333}, {1023, 126}, {15, 6}, {31, 2}}},
		{impl.BestEffort, 77, 5, [9][2]int{{31, 14}, {63, 28}, {127, 127}, {255, 151}, {511, 229}, {1023, 488}, {1023, 416}, {15, 14}, {31, 17}}},
		{impl.Video, -1, 6, [9][2]int{{15, 2}, {15, 4}, {15, 11}, {15, 7}, {15, 8}, {15, 15}, {15, 11}, {7, 4}, {15, 3}}},
		{impl.Voice, 0, 1, [9][2]int{{7, 2}, {7, 4}, {7, 4}, {7, 1}, {7, 3}, {7, 3}, {7, 0}, {3, 2}, {7, 2}}},
		{impl.Voice, math.MinInt, 2, [9][2]int{{7, 1}, {7, 2}, {7, 7}, {7, 3}, {7, 3}, {7, 1}, {7, 4}, {3, 0}, {7, 2}}},
		{impl.Background, math.MaxInt, 1, [9][2]int{{31, 15}, {63, 51}, {127, 107}, {255, 217}, {511, 381}, {1023, 725}, {1023, 739}, {15, 7}, {31, 0}}},
	} {
		b := impl.NewBackoff(c.category, c.seed)
		if b.Wait != c.wait {
			t.Errorf("NewBackoff(%d, %d) is %+v", c.category, c.seed, b)
		}
		for i, step := range c.steps {
			retries := []int{1, 2, 3, 4, 5, 6, 7, 0, 1}[i]
			want := backoffOf(paramsReference(c.category), step[0], step[1], 0, retries, i+2)
			expectFailed(t, b, c.seed, want, i != 7)
			b, _ = impl.BackoffFailed(b, c.seed)
		}
	}
}

// Promise 15: MaxRetries failures in a row leave the frame, and the next one gives it up, as if it had succeeded.
func TestGivesUpAfterLastRetry(t *testing.T) {
	for category := range accessRows {
		for _, seed := range seeds {
			b := impl.NewBackoff(category, seed)
			for frame := range 3 {
				for n := range impl.MaxRetries {
					next, again := impl.BackoffFailed(b, seed)
					if !again || next.Retries != n+1 || next.Window != impl.WindowAfter(b.Params, n+1) || next.Draws != 8*frame+n+2 {
						t.Errorf("failure %d of frame %d with the seed %d is %+v, %v", n+1, frame, seed, next, again)
					}
					expectReadyAfter(t, next, b.Params.Aifs+impl.RandomWait(seed, b.Draws, next.Window))
					b = next
				}
				want := impl.BackoffSucceeded(b, seed)
				expectFailed(t, b, seed, want, false)
				b, _ = impl.BackoffFailed(b, seed)
				if b.Retries != 0 || b.Window != b.Params.CwMin || b.Draws != 8*frame+9 {
					t.Errorf("frame %d is given up with %+v", frame, b)
				}
			}
		}
	}
}

// A success in between leaves the next frame all its retries.
func TestSuccessRestoresRetries(t *testing.T) {
	for category := range accessRows {
		for failures := range impl.MaxRetries + 1 {
			b := impl.NewBackoff(category, 5)
			for range failures {
				b, _ = impl.BackoffFailed(b, 5)
			}
			expectSucceeded(t, b, 5, backoffOf(b.Params, b.Params.CwMin, waitReference(5, failures+1, b.Params.CwMin), 0, 0, failures+2))
			b = impl.BackoffSucceeded(b, 5)
			count := 0
			for again := true; again; count++ {
				b, again = impl.BackoffFailed(b, 5)
			}
			if count != impl.MaxRetries+1 {
				t.Errorf("after %d failures and a success, a frame is sent %d times", failures, count)
			}
		}
	}
}

// A random course of slots, successes and failures leaves the backoff valid, and like that of the references.
func TestCourseOfBackoff(t *testing.T) {
	random := rand.New(rand.NewPCG(15, 3))
	for _, seed := range seeds {
		for _, p := range backoffParams() {
			b := backoffOf(p, p.CwMin, 0, 0, 0, mostDraws-20)
			for range 300 {
				before := b
				switch random.IntN(8) {
				case 0:
					expectSucceeded(t, b, seed, succeededReference(b, seed))
					b = impl.BackoffSucceeded(b, seed)
				case 1, 2:
					want, again := failedReference(b, seed)
					expectFailed(t, b, seed, want, again)
					b, _ = impl.BackoffFailed(b, seed)
				default:
					busy := random.IntN(6) == 0
					expectTick(t, b, busy, tickReference(b, busy))
					b = impl.TickBackoff(b, busy)
				}
				if !impl.IsValidBackoff(b) || b.Params != before.Params {
					t.Fatalf("%+v became %+v", before, b)
				}
			}
		}
	}
}

// The calls between two equal calls change nothing, neither the argument nor what was returned.
func TestBackoffKeepsNoState(t *testing.T) {
	type answers struct {
		wait, slots                       int
		idle, busy, first, next, tryAgain impl.Backoff
		ready, again                      bool
	}
	ask := func(b impl.Backoff, seed int) answers {
		given := b
		a := answers{wait: impl.RandomWait(seed, b.Draws, b.Window), slots: impl.SlotsUntilReady(b), ready: impl.IsReady(b), first: impl.NewBackoff(b.Retries, seed)}
		a.idle, a.busy, a.next = impl.TickBackoff(b, false), impl.TickBackoff(b, true), impl.BackoffSucceeded(b, seed)
		a.tryAgain, a.again = impl.BackoffFailed(b, seed)
		if b != given {
			t.Errorf("%+v became %+v", given, b)
		}
		return a
	}
	list := spoiltBackoffs(backoffOf(rowParams(accessRows[2]), 15, 3, 1, 2, 3))
	backoffs(func(b impl.Backoff) {
		list = append(list, b)
	})
	first := []answers{}
	for _, b := range list {
		first = append(first, ask(b, 5))
	}
	kept := slices.Clone(first)
	for i, b := range slices.Backward(list) {
		ask(b, 6)
		if got := ask(b, 5); got != first[i] {
			t.Errorf("the answers for %+v became %+v, not %+v", b, got, first[i])
		}
	}
	if !slices.Equal(first, kept) {
		t.Error("answers were changed by later calls")
	}
}
