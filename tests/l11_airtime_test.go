package tests

import (
	"math"
	"slices"
	"testing"

	"loop.example/g00511/impl"
)

// channelRates are the bytes per slot and the required quality of each rate.
var channelRates = []struct{ bytes, quality int }{{4, 10}, {8, 30}, {12, 50}, {24, 80}}

// notRateIndices, notQualities and notByteCounts are out of range; the lowest bits of some of them are those of a value in range.
var (
	notRateIndices = []int{-1, 4, -2, -3, -4, 5, 6, 7, 8, 255, 256, 257, 1 << 32, 1<<32 + 1, -1<<32 + 2, math.MinInt, math.MinInt + 1, math.MinInt + 3, math.MaxInt - 1, math.MaxInt}
	notQualities   = []int{-1, 101, -2, -10, -100, -101, 102, 127, 128, 256, 356, 1 << 32, 1<<32 + 80, -1<<32 + 80, math.MinInt, math.MinInt + 80, math.MaxInt - 1, math.MaxInt}
	notByteCounts  = []int{-1, 1000000000001, -2, -4, -24, 1000000000002, -1000000000000, 1 << 40, -1 << 32, -1<<32 + 8, math.MinInt, math.MinInt + 1, math.MinInt + 8, math.MaxInt - 24, math.MaxInt - 1, math.MaxInt}
)

// byteCounts returns counts in range, in ascending order, that fill slots exactly or miss that by a byte.
func byteCounts() []int {
	list := upTo(201)
	for _, c := range channelRates {
		for _, slots := range []int{1, 2, 3, 10, 99, 1000, 1000000, 1 << 32 / c.bytes, 1000000000000 / c.bytes} {
			for near := slots*c.bytes - 1; near <= slots*c.bytes+1; near++ {
				list = append(list, min(near, 1000000000000))
			}
		}
	}
	for less := range 50 {
		list = append(list, 1000000000000-less)
	}
	slices.Sort(list)
	return slices.Compact(list)
}

// slotsReference counts the full slots, the one with the remaining bytes and the one with the header.
func slotsReference(rate int, bytes int) int {
	if rate < 0 || rate > 3 || bytes < 0 || bytes > 1000000000000 {
		return 0
	}
	slots := bytes / channelRates[rate].bytes
	if bytes%channelRates[rate].bytes > 0 {
		slots++
	}
	return slots + 1
}

// exchangeReference adds the slots of the acknowledgment, the request and the grant.
func exchangeReference(rate int, bytes int, reserved bool) int {
	slots := slotsReference(rate, bytes)
	if slots > 0 && reserved {
		return slots + 3
	}
	if slots > 0 {
		return slots + 1
	}
	return 0
}

// percentReference walks from the required quality to the present one.
func percentReference(rate int, quality int) int {
	if rate < 0 || rate > 3 || quality < 0 || quality > 100 {
		return 0
	}
	percent := 0
	for q := channelRates[rate].quality; q <= quality; q++ {
		percent = min(max(percent+5, 50), 100)
	}
	return percent
}

func deliveredReference(rate int, quality int, roll int) bool {
	return roll >= 0 && roll <= 99 && roll < percentReference(rate, quality)
}

func expectedReference(rate int, bytes int, quality int) int {
	slots, percent := 100*exchangeReference(rate, bytes, false), percentReference(rate, quality)
	if slots == 0 || percent == 0 {
		return -1
	}
	if slots%percent > 0 {
		return slots/percent + 1
	}
	return slots / percent
}

func expectFrameSlots(t *testing.T, rate int, bytes int, want int) {
	t.Helper()
	if got := impl.FrameSlots(rate, bytes); got != want {
		t.Errorf("FrameSlots(%d, %d) is %d, not %d", rate, bytes, got, want)
	}
}

func expectExchangeSlots(t *testing.T, rate int, bytes int, reserved bool, want int) {
	t.Helper()
	if got := impl.ExchangeSlots(rate, bytes, reserved); got != want {
		t.Errorf("ExchangeSlots(%d, %d, %v) is %d, not %d", rate, bytes, reserved, got, want)
	}
}

// expectNoSlots expects that an argument is out of range, also for the slots of an exchange.
func expectNoSlots(t *testing.T, rate int, bytes int) {
	t.Helper()
	expectFrameSlots(t, rate, bytes, 0)
	expectExchangeSlots(t, rate, bytes, false, 0)
	expectExchangeSlots(t, rate, bytes, true, 0)
}

func expectHighestRate(t *testing.T, quality int, want int) {
	t.Helper()
	if got := impl.HighestRate(quality); got != want {
		t.Errorf("HighestRate(%d) is %d, not %d", quality, got, want)
	}
}

func expectDelivered(t *testing.T, rate int, quality int, roll int, want bool) {
	t.Helper()
	if got := impl.FrameDelivered(rate, quality, roll); got != want {
		t.Errorf("FrameDelivered(%d, %d, %d) is %v", rate, quality, roll, got)
	}
}

func expectExpected(t *testing.T, rate int, bytes int, quality int, want int) {
	t.Helper()
	if got := impl.ExpectedSlots(rate, bytes, quality); got != want {
		t.Errorf("ExpectedSlots(%d, %d, %d) is %d, not %d", rate, bytes, quality, got, want)
	}
}

func TestConstantsOfAirtime(t *testing.T) {
	if impl.MaxRateIndex != 3 || impl.MaxQuality != 100 || impl.ControlSlots != 1 {
		t.Error(impl.MaxRateIndex, impl.MaxQuality, impl.ControlSlots)
	}
}

func TestValuesOfRates(t *testing.T) {
	for rate, c := range channelRates {
		if !impl.IsValidRateIndex(rate) {
			t.Errorf("rate %d is not valid", rate)
		}
		if got := impl.BytesPerSlot(rate); got != c.bytes {
			t.Errorf("BytesPerSlot(%d) is %d, not %d", rate, got, c.bytes)
		}
		if got := impl.RequiredQuality(rate); got != c.quality {
			t.Errorf("RequiredQuality(%d) is %d, not %d", rate, got, c.quality)
		}
	}
	for _, rate := range notRateIndices {
		if impl.IsValidRateIndex(rate) {
			t.Errorf("rate %d is valid", rate)
		}
		if bytes, quality := impl.BytesPerSlot(rate), impl.RequiredQuality(rate); bytes != 0 || quality != 0 {
			t.Errorf("BytesPerSlot and RequiredQuality of %d are %d, %d", rate, bytes, quality)
		}
	}
}

// Fixed values, computed apart from the program.
func TestFrameSlots(t *testing.T) {
	for _, c := range [][3]int{
		{1, 20, 4},
		{0, 0, 1}, {1, 0, 1}, {2, 0, 1}, {3, 0, 1}, {0, 1, 2}, {1, 1, 2}, {2, 1, 2}, {3, 1, 2},
		// slots that are full, and those of a byte less or more
		{0, 3, 2}, {0, 4, 2}, {0, 5, 3}, {0, 7, 3}, {0, 8, 3}, {0, 9, 4}, {0, 999, 251}, {0, 1000, 251}, {0, 1001, 252},
		{1, 7, 2}, {1, 8, 2}, {1, 9, 3}, {1, 15, 3}, {1, 16, 3}, {1, 17, 4}, {1, 999, 126}, {1, 1000, 126}, {1, 1001, 127},
		{2, 11, 2}, {2, 12, 2}, {2, 13, 3}, {2, 23, 3}, {2, 24, 3}, {2, 25, 4}, {2, 1199, 101}, {2, 1200, 101}, {2, 1201, 102},
		{3, 23, 2}, {3, 24, 2}, {3, 25, 3}, {3, 47, 3}, {3, 48, 3}, {3, 49, 4}, {3, 2399, 101}, {3, 2400, 101}, {3, 2401, 102},
		// the greatest numbers of bytes
		{0, 999999999996, 250000000000}, {0, 999999999997, 250000000001}, {0, 999999999999, 250000000001}, {0, 1000000000000, 250000000001},
		{1, 999999999992, 125000000000}, {1, 999999999999, 125000000001}, {1, 1000000000000, 125000000001},
		{2, 999999999996, 83333333334}, {2, 999999999999, 83333333335}, {2, 1000000000000, 83333333335},
		{3, 999999999984, 41666666667}, {3, 999999999999, 41666666668}, {3, 1000000000000, 41666666668},
	} {
		expectFrameSlots(t, c[0], c[1], c[2])
	}
}

func TestFrameSlotsOfFullSlots(t *testing.T) {
	for rate, c := range channelRates {
		for _, slots := range []int{1, 2, 3, 4, 10, 1000, 1000000, 41666666665} {
			full := slots * c.bytes
			expectFrameSlots(t, rate, full-1, 1+slots)
			expectFrameSlots(t, rate, full, 1+slots)
			expectFrameSlots(t, rate, full+1, 2+slots)
		}
	}
}

func TestSlotsAgainstReference(t *testing.T) {
	for rate := range 4 {
		for _, bytes := range byteCounts() {
			expectFrameSlots(t, rate, bytes, slotsReference(rate, bytes))
			expectExchangeSlots(t, rate, bytes, false, exchangeReference(rate, bytes, false))
			expectExchangeSlots(t, rate, bytes, true, exchangeReference(rate, bytes, true))
		}
	}
}

// More bytes never take fewer slots, nor does a higher rate take more.
func TestSlotsGrowWithBytes(t *testing.T) {
	for rate, c := range channelRates {
		previous := 0
		for _, bytes := range byteCounts() {
			slots := impl.FrameSlots(rate, bytes)
			if slots < previous || slots < 1 {
				t.Errorf("FrameSlots(%d, %d) is %d after %d", rate, bytes, slots, previous)
			}
			if bytes+c.bytes <= 1000000000000 {
				expectFrameSlots(t, rate, bytes+c.bytes, slots+1)
			}
			if faster := impl.FrameSlots(rate+1, bytes); faster > slots {
				t.Errorf("%d bytes take %d slots with rate %d and %d with the next one", bytes, slots, rate, faster)
			}
			previous = slots
		}
	}
}

func TestExchangeSlots(t *testing.T) {
	for _, c := range [][4]int{
		{1, 20, 5, 7}, {0, 0, 2, 4}, {1, 0, 2, 4}, {2, 0, 2, 4}, {3, 0, 2, 4},
		{0, 1, 3, 5}, {0, 4, 3, 5}, {0, 5, 4, 6}, {1, 8, 3, 5}, {1, 9, 4, 6}, {2, 12, 3, 5}, {2, 13, 4, 6}, {3, 24, 3, 5}, {3, 25, 4, 6},
		{0, 100, 27, 29}, {1, 100, 15, 17}, {2, 100, 11, 13}, {3, 100, 7, 9},
		{0, 1000000000000, 250000000002, 250000000004}, {3, 1000000000000, 41666666669, 41666666671},
	} {
		expectExchangeSlots(t, c[0], c[1], false, c[2])
		expectExchangeSlots(t, c[0], c[1], true, c[3])
	}
}

// One argument out of range suffices.
func TestSlotsOutOfRange(t *testing.T) {
	for _, rate := range notRateIndices {
		for _, bytes := range slices.Concat([]int{0, 1, 20, 24, 1000000000000}, notByteCounts) {
			expectNoSlots(t, rate, bytes)
		}
	}
	for rate := range 4 {
		for _, bytes := range notByteCounts {
			expectNoSlots(t, rate, bytes)
		}
	}
}

func TestHighestRate(t *testing.T) {
	for _, c := range [][2]int{
		{9, -1}, {10, 0}, {11, 0}, {29, 0}, {30, 1}, {31, 1}, {49, 1}, {50, 2}, {51, 2}, {79, 2}, {80, 3}, {81, 3}, {99, 3}, {100, 3},
		// any number is taken, also one that is no quality
		{101, 3}, {1000, 3}, {math.MaxInt - 1, 3}, {math.MaxInt, 3},
		{0, -1}, {1, -1}, {-1, -1}, {-10, -1}, {-80, -1}, {-100, -1}, {math.MinInt, -1}, {math.MinInt + 10, -1}, {math.MinInt + 80, -1},
	} {
		expectHighestRate(t, c[0], c[1])
	}
}

// The search tries all rates.
func TestHighestRateAgainstSearch(t *testing.T) {
	qualities := slices.Clone(notQualities)
	for quality := -200; quality <= 300; quality++ {
		qualities = append(qualities, quality)
	}
	for _, quality := range qualities {
		highest := -1
		for rate, c := range channelRates {
			if c.quality <= quality {
				highest = max(highest, rate)
			}
		}
		expectHighestRate(t, quality, highest)
	}
}

// The highest rate delivers frames, and the next one does not.
func TestHighestRateDelivers(t *testing.T) {
	for quality := range 101 {
		highest := impl.HighestRate(quality)
		for rate := range 4 {
			expectDelivered(t, rate, quality, 0, rate <= highest)
		}
	}
}

func TestFrameDelivered(t *testing.T) {
	for _, c := range []struct {
		rate, quality, roll int
		want                bool
	}{
		{1, 30, 0, true}, {1, 30, 49, true}, {1, 30, 50, false}, {1, 30, 99, false},
		{1, 29, 0, false}, {1, 29, 44, false}, {1, 29, 99, false}, {1, 0, 0, false},
		{1, 31, 54, true}, {1, 31, 55, false}, {1, 39, 94, true}, {1, 39, 95, false},
		{1, 40, 99, true}, {1, 41, 99, true}, {1, 100, 99, true},
		{0, 10, 49, true}, {0, 10, 50, false}, {0, 9, 0, false}, {0, 20, 99, true}, {0, 19, 95, false},
		{2, 50, 49, true}, {2, 50, 50, false}, {2, 49, 0, false}, {2, 60, 99, true}, {2, 59, 95, false},
		{3, 80, 49, true}, {3, 80, 50, false}, {3, 79, 0, false}, {3, 90, 99, true}, {3, 89, 95, false},
		// beyond the limits of each argument
		{0, 100, 100, false}, {0, 100, -1, false}, {0, 101, 0, false}, {3, 101, 99, false}, {0, -1, 0, false}, {-1, 100, 0, false}, {4, 100, 0, false},
	} {
		expectDelivered(t, c.rate, c.quality, c.roll, c.want)
	}
}

func TestFrameDeliveredAgainstReference(t *testing.T) {
	for rate := -1; rate <= 4; rate++ {
		for quality := -1; quality <= 101; quality++ {
			for roll := -1; roll <= 100; roll++ {
				expectDelivered(t, rate, quality, roll, deliveredReference(rate, quality, roll))
			}
		}
	}
}

// One argument out of range suffices, with all choices of the others.
func TestFrameDeliveredOutOfRange(t *testing.T) {
	notRolls := []int{-1, 100, -2, -50, -100, 101, 105, 256, 1 << 32, -1 << 32, math.MinInt, math.MinInt + 1, math.MaxInt - 1, math.MaxInt}
	rates := slices.Concat(upTo(4), notRateIndices)
	qualities := slices.Concat([]int{0, 10, 30, 50, 80, 100}, notQualities)
	rolls := slices.Concat([]int{0, 49, 50, 99}, notRolls)
	for _, rate := range rates {
		for _, quality := range qualities {
			for _, roll := range rolls {
				if slices.Contains(notRateIndices, rate) || slices.Contains(notQualities, quality) || slices.Contains(notRolls, roll) {
					expectDelivered(t, rate, quality, roll, false)
				}
			}
		}
	}
}

// Fixed values, computed apart from the program.
func TestExpectedSlots(t *testing.T) {
	for _, c := range [][4]int{
		{1, 20, 30, 10}, {1, 20, 40, 5}, {1, 20, 20, -1},
		// 50, 55, 60, 95 and 100 of 100 frames arrive, and no more at a better quality
		{1, 0, 30, 4}, {1, 0, 31, 4}, {1, 0, 32, 4}, {1, 0, 39, 3}, {1, 0, 40, 2}, {1, 0, 41, 2}, {1, 0, 100, 2},
		{1, 1, 30, 6}, {1, 1, 31, 6}, {1, 1, 32, 5}, {1, 1, 39, 4}, {1, 1, 40, 3}, {1, 1, 41, 3}, {1, 1, 100, 3},
		{0, 100, 10, 54}, {0, 100, 11, 50}, {0, 100, 12, 45}, {0, 100, 19, 29}, {0, 100, 20, 27}, {0, 100, 21, 27}, {0, 100, 100, 27},
		{1, 100, 30, 30}, {1, 100, 31, 28}, {1, 100, 32, 25}, {1, 100, 39, 16}, {1, 100, 40, 15}, {1, 100, 41, 15}, {1, 100, 100, 15},
		{2, 100, 50, 22}, {2, 100, 51, 20}, {2, 100, 52, 19}, {2, 100, 59, 12}, {2, 100, 60, 11}, {2, 100, 61, 11}, {2, 100, 100, 11},
		{3, 100, 80, 14}, {3, 100, 81, 13}, {3, 100, 82, 12}, {3, 100, 89, 8}, {3, 100, 90, 7}, {3, 100, 91, 7}, {3, 100, 100, 7},
		// 10, 11 and 12 slots times 100 divided by 55, and 18, 19 and 20 slots times 100 divided by 95
		{1, 64, 31, 19}, {1, 65, 31, 20}, {1, 72, 31, 20}, {1, 73, 31, 22},
		{0, 64, 19, 19}, {0, 65, 19, 20}, {0, 68, 19, 20}, {0, 69, 19, 22},
		// the greatest numbers of bytes
		{0, 1000000000000, 10, 500000000004}, {0, 1000000000000, 11, 454545454550}, {0, 1000000000000, 19, 263157894739}, {0, 999999999999, 20, 250000000002},
		{1, 1000000000000, 31, 227272727277}, {2, 1000000000000, 59, 87719298249}, {3, 1000000000000, 80, 83333333338}, {3, 1000000000000, 81, 75757575762},
	} {
		expectExpected(t, c[0], c[1], c[2], c[3])
	}
}

func TestExpectedSlotsRejects(t *testing.T) {
	for _, c := range [][3]int{
		// a quality below the required one, or none at all
		{0, 20, 9}, {1, 20, 29}, {2, 20, 49}, {3, 20, 79}, {0, 20, 0}, {0, 20, -1}, {0, 20, 101}, {3, 20, 101}, {0, 0, math.MaxInt}, {0, 0, math.MinInt},
		// bytes that are out of range
		{0, -1, 100}, {3, -1, 100}, {0, 1000000000001, 100}, {3, 1000000000001, 80}, {1, math.MinInt, 30}, {1, math.MaxInt, 30},
		// no rate
		{-1, 20, 100}, {4, 20, 100}, {-1, 20, 0}, {4, 20, 0}, {math.MinInt, 0, 100}, {math.MaxInt, 0, 100},
		{math.MinInt, math.MinInt, math.MinInt}, {math.MaxInt, math.MaxInt, math.MaxInt}, {-1, -1, -1},
	} {
		expectExpected(t, c[0], c[1], c[2], -1)
	}
}

func TestExpectedSlotsAgainstReference(t *testing.T) {
	counts := byteCounts()
	for rate := -1; rate <= 4; rate++ {
		for quality := -1; quality <= 101; quality++ {
			for _, bytes := range counts {
				expectExpected(t, rate, bytes, quality, expectedReference(rate, bytes, quality))
			}
		}
	}
}

// One argument out of range suffices, with all choices of the others.
func TestExpectedSlotsOutOfRange(t *testing.T) {
	for _, rate := range slices.Concat(upTo(4), notRateIndices) {
		for _, quality := range slices.Concat([]int{0, 10, 30, 50, 80, 100}, notQualities) {
			for _, bytes := range slices.Concat([]int{0, 1, 20, 1000000000000}, notByteCounts) {
				if slices.Contains(notRateIndices, rate) || slices.Contains(notQualities, quality) || slices.Contains(notByteCounts, bytes) {
					expectExpected(t, rate, bytes, quality, -1)
				}
			}
		}
	}
}

// The expected slots, times the rolls of 100 at which a frame arrives, are the least that reach the slots of 100 exchanges.
func TestExpectedSlotsFitDelivery(t *testing.T) {
	for rate := range 4 {
		for quality := range 101 {
			arrived := 0
			for roll := range 100 {
				if impl.FrameDelivered(rate, quality, roll) {
					arrived++
				}
			}
			for _, bytes := range []int{0, 1, 20, 64, 65, 100, 1000, 1000000000000} {
				expected, needed := impl.ExpectedSlots(rate, bytes, quality), 100*impl.ExchangeSlots(rate, bytes, false)
				if arrived == 0 && expected == -1 {
					continue
				}
				if expected*arrived < needed || (expected-1)*arrived >= needed {
					t.Errorf("ExpectedSlots(%d, %d, %d) is %d, and %d of 100 frames arrive", rate, bytes, quality, expected, arrived)
				}
			}
		}
	}
}
