package tests

import (
	"encoding/binary"
	"fmt"
	"math"
	"math/rand/v2"
	"slices"
	"strconv"
	"strings"
	"testing"

	"loop.example/g00511/impl"
)

// lastBeacon is the greatest slot of a beacon.
const lastBeacon = 1000000000000

// The lists beginning with not are out of range; the lowest bits of some of the numbers are those of a number in range.
var (
	beaconSlots    = []int{0, 10, 20, 90, 100, 1270, 1280, 16380, 163840, 1<<32 + 4, lastBeacon / 2, lastBeacon - 10, lastBeacon}
	notBeaconSlots = []int{
		-1, 1, 9, 11, 5, 2, 19, 21, 99, 101, 127, 128, 16384, 1 << 32, lastBeacon - 11, lastBeacon - 9, lastBeacon - 1, lastBeacon + 1, lastBeacon + 9,
		lastBeacon + 10, lastBeacon + 11, lastBeacon + 20, 10 << 37, 10 << 59, -10, -9, -11, -20, -100, -lastBeacon, -lastBeacon - 10, -10 << 59,
		math.MinInt, math.MinInt + 1, math.MinInt + 8, math.MinInt + 18, math.MaxInt - 17, math.MaxInt - 7, math.MaxInt - 1, math.MaxInt,
	}
	notPeriods = []int{0, 9, -1, -2, -8, 10, 16, 17, 255, 256, 257, 1 << 32, 1<<32 + 3, -1<<32 + 3, lastBeacon, lastBeacon + 1, math.MinInt, math.MinInt + 3, math.MaxInt - 1, math.MaxInt}
	// farCounts are in the range of DtimCount with no period.
	farCounts = []int{-1, 8, -2, -8, 9, 16, 255, 256, 257, 1 << 32, 1<<32 + 1, -1<<32 + 1, math.MinInt, math.MinInt + 1, math.MaxInt - 1, math.MaxInt}
	tims      = []int{0, 1, 2, 3, 127, 128, 0x5555, 0xaaaa, 16383, 16384, 32767, 32768, 65534, 65535}
	notTims   = []int{-1, 65536, -2, -65535, -65536, -65537, 65537, 131071, 131072, 1 << 20, 1 << 32, 1<<32 + 5, lastBeacon, 1 << 62, math.MinInt, math.MinInt + 2, math.MinInt + 65535, math.MaxInt - 1, math.MaxInt}
)

func beacon(from int, slot int, count int, period int, tim int) impl.Beacon {
	return impl.Beacon{From: from, Slot: slot, DtimCount: count, DtimPeriod: period, Tim: tim}
}

func withGroupTraffic(b impl.Beacon) impl.Beacon {
	b.GroupTraffic = true
	return b
}

// validBeaconReference looks at the decimal digits of the slot, and for the other fields in lists.
func validBeaconReference(b impl.Beacon) bool {
	slot := strconv.Itoa(b.Slot)
	if slot[0] == '-' || !strings.HasSuffix(slot, "0") || len(slot) > 12 && slot != "1000000000000" {
		return false
	}
	if !slices.Contains(upTo(16), b.From) || !slices.Contains(upTo(9)[1:], b.DtimPeriod) || !slices.Contains(upTo(b.DtimPeriod), b.DtimCount) {
		return false
	}
	return b.Tim == b.Tim&0xffff && !(b.GroupTraffic && b.DtimCount > 0)
}

// varintsOf returns the varints of numbers that are not negative, with those of the standard library.
func varintsOf(numbers ...int) []byte {
	code := []byte{}
	for _, n := range numbers {
		code = binary.AppendUvarint(code, uint64(n))
	}
	return code
}

// numbersOfBeacon are in the order of the encoding.
func numbersOfBeacon(b impl.Beacon) []int {
	flag := 0
	if b.GroupTraffic {
		flag = 1
	}
	return []int{b.From, b.Slot, b.DtimCount, b.DtimPeriod, flag, b.Tim}
}

func codeOfBeacon(b impl.Beacon) []byte {
	return varintsOf(numbersOfBeacon(b)...)
}

// decodedBeaconReference reads six varints one by one, and nothing may follow them.
func decodedBeaconReference(data []byte) (impl.Beacon, bool) {
	numbers, offset := [6]int{}, 0
	for i := range numbers {
		n, next, ok := readReference(data, offset)
		if !ok {
			return impl.Beacon{}, false
		}
		numbers[i], offset = n, next
	}
	b := beacon(numbers[0], numbers[1], numbers[2], numbers[3], numbers[5])
	b.GroupTraffic = numbers[4] == 1
	if offset != len(data) || numbers[4] > 1 || !validBeaconReference(b) {
		return impl.Beacon{}, false
	}
	return b, true
}

// digitsOfMap are the 64 binary digits of the map, that of station 0 last.
func digitsOfMap(tim int) []byte {
	return fmt.Appendf(nil, "%064b", uint64(tim))
}

func containsReference(tim int, station int) bool {
	return slices.Contains(upTo(16), station) && digitsOfMap(tim)[63-station] == '1'
}

func setReference(b impl.Beacon, station int, kept bool) impl.Beacon {
	if !slices.Contains(upTo(16), station) {
		return b
	}
	digits := digitsOfMap(b.Tim)
	digits[63-station] = '0'
	if kept {
		digits[63-station] = '1'
	}
	tim, _ := strconv.ParseUint(string(digits), 2, 64)
	b.Tim = int(tim)
	return b
}

// nextBeaconReference tries the slots after now one by one; now is in range.
func nextBeaconReference(now int) int {
	slot := now + 1
	for !strings.HasSuffix(strconv.Itoa(slot), "0") {
		slot++
	}
	return slot
}

// countAtReference counts the beacons from the slot on until the number of beacons since slot 0 is a multiple of the period; both arguments are in range.
func countAtReference(slot int, period int) int {
	count := 0
	for (slot+10*count)%(10*period) != 0 {
		count++
	}
	return count
}

// limitBeacons are valid ones, with each period and count, with group traffic where it may be set, and fields at their limits.
func limitBeacons() []impl.Beacon {
	list := []impl.Beacon{}
	for i, slot := range beaconSlots {
		for period := 1; period <= 8; period++ {
			for count := range period {
				b := beacon(stations[(i+count)%len(stations)], slot, count, period, tims[(i+period)%len(tims)])
				list = append(list, b)
				if count == 0 {
					list = append(list, withGroupTraffic(b))
				}
			}
		}
	}
	for i, tim := range tims {
		for j, from := range stations {
			list = append(list, beacon(from, beaconSlots[(i+j)%len(beaconSlots)], 2, 3, tim), withGroupTraffic(beacon(from, 10, 0, 8, tim)))
		}
	}
	return list
}

// spoiltBeacons returns beacons that are invalid in one field alone, the other fields being those of b, which is valid.
func spoiltBeacons(b impl.Beacon) []impl.Beacon {
	list := []impl.Beacon{}
	add := func(field *int, wrong ...int) {
		right := *field
		for _, n := range wrong {
			*field = n
			list = append(list, b)
		}
		*field = right
	}
	add(&b.From, notStations...)
	add(&b.Slot, notBeaconSlots...)
	add(&b.DtimPeriod, notPeriods...)
	add(&b.DtimCount, b.DtimPeriod, b.DtimPeriod+1, 2*b.DtimPeriod, -b.DtimPeriod)
	add(&b.DtimCount, farCounts...)
	add(&b.Tim, notTims...)
	if b.GroupTraffic {
		for count := 1; count < b.DtimPeriod; count++ {
			add(&b.DtimCount, count)
		}
	}
	for period := 1; period <= b.DtimCount; period++ {
		add(&b.DtimPeriod, period)
	}
	if b.DtimCount > 0 {
		list = append(list, withGroupTraffic(b))
	}
	return list
}

// invalidBeacons returns the zero beacon, those that are invalid in one field alone, and some with several such fields.
func invalidBeacons() []impl.Beacon {
	list := []impl.Beacon{{}, {GroupTraffic: true}, {From: 1, Slot: 10}}
	for _, n := range []int{math.MinInt, -10, -1, 17, 65536, math.MaxInt} {
		list = append(list, beacon(n, n, n, n, n), withGroupTraffic(beacon(n, n, n, n, n)), beacon(n, n, 0, 1, 0), beacon(1, 10, n, n, n))
	}
	for _, b := range []impl.Beacon{beacon(0, 0, 0, 1, 0), beacon(15, lastBeacon, 7, 8, 65535), beacon(3, 20, 1, 3, 16), withGroupTraffic(beacon(3, 30, 0, 3, 16)), withGroupTraffic(beacon(15, 10, 0, 8, 65535)), beacon(1, 40, 0, 2, 1)} {
		list = append(list, spoiltBeacons(b)...)
	}
	return list
}

// someMaps are maps in range and out of it, with every single bit and with every single bit missing.
func someMaps() []int {
	list := slices.Concat(tims, notTims)
	for i := range 64 {
		list = append(list, 1<<i, ^(1 << i))
	}
	return list
}

func expectValidBeacon(t *testing.T, b impl.Beacon, want bool) {
	t.Helper()
	if got := impl.IsValidBeacon(b); got != want {
		t.Errorf("IsValidBeacon(%+v) is %v", b, got)
	}
}

func expectBeaconCode(t *testing.T, b impl.Beacon, want []byte) {
	t.Helper()
	if got := impl.EncodeBeacon(b); !slices.Equal(got, want) {
		t.Errorf("EncodeBeacon(%+v) is %v, not %v", b, got, want)
	}
}

func expectBeacon(t *testing.T, data []byte, want impl.Beacon, wantOK bool) {
	t.Helper()
	if got, ok := impl.DecodeBeacon(data); got != want || ok != wantOK {
		t.Errorf("DecodeBeacon(%v) is %+v, %v, not %+v, %v", data, got, ok, want, wantOK)
	}
}

func expectNoBeacon(t *testing.T, data []byte) {
	t.Helper()
	expectBeacon(t, data, impl.Beacon{}, false)
}

func expectBeaconLikeReference(t *testing.T, data []byte) {
	t.Helper()
	want, ok := decodedBeaconReference(data)
	expectBeacon(t, data, want, ok)
}

func expectContains(t *testing.T, b impl.Beacon, station int, want bool) {
	t.Helper()
	if got := impl.TimContains(b, station); got != want {
		t.Errorf("TimContains(%+v, %d) is %v", b, station, got)
	}
}

func expectSet(t *testing.T, b impl.Beacon, station int, kept bool, want impl.Beacon) {
	t.Helper()
	if got := impl.SetTim(b, station, kept); got != want {
		t.Errorf("SetTim(%+v, %d, %v) is %+v, not %+v", b, station, kept, got, want)
	}
}

func expectNextBeacon(t *testing.T, now int, want int) {
	t.Helper()
	if got := impl.NextBeaconSlot(now); got != want {
		t.Errorf("NextBeaconSlot(%d) is %d, not %d", now, got, want)
	}
}

func expectCountAt(t *testing.T, slot int, period int, want int) {
	t.Helper()
	if got := impl.DtimCountAt(slot, period); got != want {
		t.Errorf("DtimCountAt(%d, %d) is %d, not %d", slot, period, got, want)
	}
}

func expectNextDelivery(t *testing.T, b impl.Beacon, want int) {
	t.Helper()
	if got := impl.NextDelivery(b); got != want {
		t.Errorf("NextDelivery(%+v) is %d, not %d", b, got, want)
	}
}

func TestConstantsOfBeacons(t *testing.T) {
	if impl.BeaconInterval != 10 || impl.MaxDtimPeriod != 8 {
		t.Error(impl.BeaconInterval, impl.MaxDtimPeriod)
	}
}

func TestIsValidBeacon(t *testing.T) {
	expectValidBeacon(t, impl.Beacon{}, false)
	for _, c := range []struct {
		from, slot, count, period, tim int
		want                           bool
	}{
		{1, 20, 1, 3, 16, true}, {0, 0, 0, 1, 0, true}, {15, 1000000000000, 7, 8, 65535, true},
		{-1, 20, 1, 3, 16, false}, {0, 20, 1, 3, 16, true}, {15, 20, 1, 3, 16, true}, {16, 20, 1, 3, 16, false}, {63, 20, 1, 3, 16, false},
		{math.MinInt, 20, 1, 3, 16, false}, {math.MaxInt, 20, 1, 3, 16, false},
		{1, -20, 1, 3, 16, false}, {1, -10, 1, 3, 16, false}, {1, -1, 1, 3, 16, false}, {1, 0, 1, 3, 16, true}, {1, 1, 1, 3, 16, false},
		{1, 9, 1, 3, 16, false}, {1, 10, 1, 3, 16, true}, {1, 11, 1, 3, 16, false}, {1, 19, 1, 3, 16, false}, {1, 21, 1, 3, 16, false}, {1, 15, 1, 3, 16, false},
		{1, 999999999989, 1, 3, 16, false}, {1, 999999999990, 1, 3, 16, true}, {1, 999999999991, 1, 3, 16, false}, {1, 999999999999, 1, 3, 16, false},
		{1, 1000000000000, 1, 3, 16, true}, {1, 1000000000001, 1, 3, 16, false}, {1, 1000000000010, 1, 3, 16, false},
		{1, math.MinInt, 1, 3, 16, false}, {1, math.MinInt + 8, 1, 3, 16, false}, {1, math.MaxInt - 7, 1, 3, 16, false}, {1, math.MaxInt, 1, 3, 16, false},
		{1, 20, 0, -1, 16, false}, {1, 20, 0, 0, 16, false}, {1, 20, 0, 1, 16, true}, {1, 20, 0, 8, 16, true}, {1, 20, 0, 9, 16, false}, {1, 20, 0, math.MinInt, 16, false}, {1, 20, 0, math.MaxInt, 16, false},
		{1, 20, -1, 3, 16, false}, {1, 20, 0, 3, 16, true}, {1, 20, 2, 3, 16, true}, {1, 20, 3, 3, 16, false}, {1, 20, 4, 3, 16, false},
		{1, 20, 8, 8, 16, false}, {1, 20, 7, 8, 16, true}, {1, 20, 1, 1, 16, false}, {1, 20, -1, 0, 16, false}, {1, 20, math.MinInt, 3, 16, false}, {1, 20, math.MaxInt, 3, 16, false},
		{1, 20, math.MaxInt, math.MinInt, 16, false}, {1, 20, math.MinInt, math.MinInt, 16, false},
		{1, 20, 1, 3, -1, false}, {1, 20, 1, 3, 0, true}, {1, 20, 1, 3, 65535, true}, {1, 20, 1, 3, 65536, false}, {1, 20, 1, 3, math.MinInt, false}, {1, 20, 1, 3, math.MaxInt, false},
	} {
		expectValidBeacon(t, beacon(c.from, c.slot, c.count, c.period, c.tim), c.want)
	}
}

// Of all pairs of fields, each value of the one with each value of the other.
func TestIsValidBeaconOfFields(t *testing.T) {
	values := [5][]int{
		slices.Concat(upTo(16), notStations), slices.Concat(beaconSlots, notBeaconSlots), slices.Concat(upTo(8), farCounts),
		slices.Concat(upTo(9), notPeriods), slices.Concat(tims, notTims),
	}
	for _, base := range [][5]int{{3, 20, 0, 8, 16}, {15, 1000000000000, 7, 8, 65535}, {0, 0, 0, 1, 0}} {
		for i, first := range values {
			for j, second := range values {
				for _, m := range first {
					for _, n := range second {
						f := base
						f[i], f[j] = m, n
						b := beacon(f[0], f[1], f[2], f[3], f[4])
						expectValidBeacon(t, b, validBeaconReference(b))
						expectValidBeacon(t, withGroupTraffic(b), validBeaconReference(b) && b.DtimCount == 0)
					}
				}
			}
		}
	}
}

func TestIsValidBeaconOfSlots(t *testing.T) {
	for _, start := range []int{0, 1000, lastBeacon - 1000} {
		for slot := start - 200; slot <= start+1200; slot++ {
			expectValidBeacon(t, beacon(1, slot, 0, 1, 0), slot >= 0 && slot <= lastBeacon && strings.HasSuffix(strconv.Itoa(slot), "0"))
		}
	}
	for _, slot := range beaconSlots {
		expectValidBeacon(t, beacon(1, slot, 0, 1, 0), true)
	}
	for _, slot := range notBeaconSlots {
		expectValidBeacon(t, beacon(1, slot, 0, 1, 0), false)
	}
}

func TestIsValidBeaconOfCounts(t *testing.T) {
	for period := 1; period <= 8; period++ {
		for count := -20; count <= 20; count++ {
			b := beacon(2, 30, count, period, 5)
			expectValidBeacon(t, b, 0 <= count && count < period)
			expectValidBeacon(t, withGroupTraffic(b), count == 0)
		}
		expectValidBeacon(t, beacon(2, 30, period-1, period, 5), true)
		expectValidBeacon(t, beacon(2, 30, period, period, 5), false)
		for _, count := range farCounts {
			expectValidBeacon(t, beacon(2, 30, count, period, 5), false)
			expectValidBeacon(t, withGroupTraffic(beacon(2, 30, count, period, 5)), false)
		}
	}
	for _, period := range notPeriods {
		for _, count := range slices.Concat(upTo(8), farCounts, []int{period - 1, period, period + 1}) {
			expectValidBeacon(t, beacon(2, 30, count, period, 5), false)
			expectValidBeacon(t, withGroupTraffic(beacon(2, 30, count, period, 5)), false)
		}
	}
}

func TestIsValidBeaconOfMaps(t *testing.T) {
	for tim := -1000; tim <= 67000; tim++ {
		expectValidBeacon(t, beacon(2, 30, 1, 2, tim), 0 <= tim && tim <= 65535)
	}
	for _, tim := range someMaps() {
		expectValidBeacon(t, beacon(2, 30, 1, 2, tim), 0 <= tim && tim <= 65535)
	}
}

// DtimCount need not be that of the slot, nor does group traffic depend on other fields.
func TestIsValidBeaconOfLimitBeacons(t *testing.T) {
	for _, b := range limitBeacons() {
		expectValidBeacon(t, b, true)
	}
	for _, b := range invalidBeacons() {
		expectValidBeacon(t, b, false)
	}
}

// Fixed values, which were computed apart from the program.
func TestEncodeBeacon(t *testing.T) {
	for _, c := range []struct {
		b    impl.Beacon
		code []byte
	}{
		{beacon(1, 20, 1, 3, 16), []byte{1, 20, 1, 3, 0, 16}},
		{withGroupTraffic(beacon(1, 30, 0, 3, 16)), []byte{1, 30, 0, 3, 1, 16}},
		{beacon(0, 0, 0, 1, 0), []byte{0, 0, 0, 1, 0, 0}},
		{withGroupTraffic(beacon(0, 0, 0, 1, 0)), []byte{0, 0, 0, 1, 1, 0}},
		{beacon(15, 1000000000000, 7, 8, 65535), []byte{15, 128, 160, 148, 165, 141, 29, 7, 8, 0, 255, 255, 3}},
		{withGroupTraffic(beacon(15, 1000000000000, 0, 8, 65535)), []byte{15, 128, 160, 148, 165, 141, 29, 0, 8, 1, 255, 255, 3}},
		{beacon(2, 300, 4, 5, 127), []byte{2, 172, 2, 4, 5, 0, 127}},
		{beacon(3, 120, 6, 7, 128), []byte{3, 120, 6, 7, 0, 128, 1}},
		{beacon(4, 130, 2, 6, 16383), []byte{4, 130, 1, 2, 6, 0, 255, 127}},
		{withGroupTraffic(beacon(5, 16390, 0, 2, 16384)), []byte{5, 134, 128, 1, 0, 2, 1, 128, 128, 1}},
	} {
		expectBeaconCode(t, c.b, c.code)
		expectBeacon(t, c.code, c.b, true)
	}
}

func TestEncodeBeaconOfInvalidBeacons(t *testing.T) {
	expectBeaconCode(t, impl.Beacon{}, nil)
	for _, b := range invalidBeacons() {
		if validBeaconReference(b) {
			t.Fatalf("%+v is valid", b)
		}
		expectBeaconCode(t, b, nil)
	}
	for _, b := range limitBeacons() {
		for _, spoilt := range spoiltBeacons(b) {
			expectBeaconCode(t, spoilt, nil)
		}
	}
}

// What is encoded is decoded.
func TestBeaconsRoundTrip(t *testing.T) {
	codes := map[string]impl.Beacon{}
	for _, b := range limitBeacons() {
		code := codeOfBeacon(b)
		expectBeaconCode(t, b, code)
		expectBeacon(t, code, b, true)
		if other, ok := codes[string(code)]; ok && other != b {
			t.Errorf("%+v and %+v have the same encoding", b, other)
		}
		codes[string(code)] = b
	}
	for tim := range 65536 {
		b := beacon(tim%16, 10*tim, tim%5, 5, tim)
		expectBeaconCode(t, b, codeOfBeacon(b))
		expectBeacon(t, impl.EncodeBeacon(b), b, true)
	}
}

func TestDecodeBeaconOfOtherLengths(t *testing.T) {
	expectNoBeacon(t, nil)
	expectNoBeacon(t, []byte{})
	for _, b := range limitBeacons() {
		code := codeOfBeacon(b)
		for end := range code {
			// What is cut off stays in the spare capacity.
			expectNoBeacon(t, code[:end])
			expectNoBeacon(t, slices.Clone(code[:end]))
		}
		for _, more := range []byte{0, 1, 127, 128, 255} {
			expectNoBeacon(t, append(slices.Clone(code), more))
			expectNoBeacon(t, append([]byte{more}, code...))
		}
		expectNoBeacon(t, slices.Concat(code, code))
	}
	for count := range 60 {
		expectBeaconLikeReference(t, make([]byte, count))
		expectNoBeacon(t, slices.Repeat([]byte{0}, count))
		expectNoBeacon(t, slices.Repeat([]byte{128}, count))
		expectNoBeacon(t, slices.Repeat([]byte{255}, count))
		expectNoBeacon(t, slices.Repeat([]byte{1}, count))
	}
}

// Of each kind of beacon, every byte of the encoding is replaced by every other byte.
func TestDecodeBeaconOfChangedBytes(t *testing.T) {
	for _, b := range []impl.Beacon{
		beacon(1, 20, 1, 3, 16), withGroupTraffic(beacon(1, 30, 0, 3, 16)), beacon(0, 0, 0, 1, 0), withGroupTraffic(beacon(0, 0, 0, 1, 0)),
		beacon(15, lastBeacon, 7, 8, 65535), withGroupTraffic(beacon(15, lastBeacon, 0, 8, 65535)), beacon(7, 1280, 2, 4, 300), withGroupTraffic(beacon(8, 16390, 0, 7, 16384)),
	} {
		code := codeOfBeacon(b)
		accepted := 0
		for i := range code {
			for v := range 256 {
				if byte(v) == code[i] {
					continue
				}
				changed := slices.Clone(code)
				changed[i] = byte(v)
				expectBeaconLikeReference(t, changed)
				if got, ok := impl.DecodeBeacon(changed); ok {
					accepted++
					expectBeaconCode(t, got, changed)
					if got == b {
						t.Errorf("%v is decoded to %+v, as %v is", changed, got, code)
					}
				}
			}
		}
		if accepted == 0 {
			t.Errorf("no byte of %v may be changed", code)
		}
	}
}

// Each number with groups of zeros behind its varint, of which the encoding has none.
func TestDecodeBeaconOfLongVarints(t *testing.T) {
	for _, b := range []impl.Beacon{beacon(1, 20, 1, 3, 16), withGroupTraffic(beacon(0, 0, 0, 1, 0)), beacon(0, 0, 0, 1, 0), beacon(15, lastBeacon, 7, 8, 65535), withGroupTraffic(beacon(9, 300, 0, 2, 300))} {
		for place := range 6 {
			for zeros := range 7 {
				code := []byte{}
				for i, n := range numbersOfBeacon(b) {
					code = append(code, varintsOf(n)...)
					if i == place && zeros > 0 {
						code[len(code)-1] |= 128
						code = append(append(code, slices.Repeat([]byte{128}, zeros-1)...), 0)
					}
				}
				expectBeacon(t, code, map[bool]impl.Beacon{true: b}[zeros == 0], zeros == 0)
			}
			for _, bad := range [][]byte{{129, 160, 148, 165, 141, 29}, {255, 255, 255, 255, 255, 127}, {128, 128, 128, 128, 128, 128, 1}, {129, 128, 128, 128, 128, 128, 128, 128, 128, 2}, {255, 255, 255, 255, 255, 255, 255, 255, 255, 1}} {
				parts := [][]byte{}
				for _, n := range numbersOfBeacon(b) {
					parts = append(parts, varintsOf(n))
				}
				parts[place] = bad
				expectNoBeacon(t, slices.Concat(parts...))
			}
		}
	}
}

func TestDecodeBeaconOfFlags(t *testing.T) {
	for count := range 3 {
		b := beacon(1, 20, count, 3, 16)
		expectBeacon(t, varintsOf(1, 20, count, 3, 0, 16), b, true)
		for flag := range 300 {
			code := varintsOf(1, 20, count, 3, flag, 16)
			switch {
			case flag == 0:
				expectBeacon(t, code, b, true)
			case flag == 1 && count == 0:
				expectBeacon(t, code, withGroupTraffic(b), true)
			default:
				expectNoBeacon(t, code)
			}
		}
		for _, flag := range []int{1 << 8, 1<<8 + 1, 1 << 16, 1<<16 + 1, 1 << 32, 1<<32 + 1, lastBeacon - 1, lastBeacon} {
			expectNoBeacon(t, varintsOf(1, 20, count, 3, flag, 16))
		}
	}
}

// The varints of each invalid beacon whose fields have varints.
func TestDecodeBeaconOfInvalidBeacons(t *testing.T) {
	tried := 0
	for _, b := range invalidBeacons() {
		if numbers := numbersOfBeacon(b); slices.Min(numbers) >= 0 {
			tried++
			expectNoBeacon(t, varintsOf(numbers...))
		}
	}
	if tried < 300 {
		t.Errorf("only %d invalid beacons have varints", tried)
	}
	for _, n := range [][]int{
		{16, 20, 1, 3, 0, 16}, {63, 20, 1, 3, 0, 16}, {1, 21, 1, 3, 0, 16}, {1, 5, 1, 3, 0, 16}, {1, 999999999999, 1, 3, 0, 16}, {1, 1000000000001, 1, 3, 0, 16}, {1, 1000000000010, 1, 3, 0, 16},
		{1, 20, 3, 3, 0, 16}, {1, 20, 0, 0, 0, 16}, {1, 20, 8, 9, 0, 16}, {1, 20, 0, 9, 0, 16}, {1, 20, 1, 3, 1, 16}, {1, 20, 0, 3, 2, 16}, {1, 20, 1, 3, 0, 65536}, {0, 0, 0, 0, 0, 0},
		{1, 20, 1, 3, 0}, {1, 20, 1, 3, 0, 16, 0}, {20, 1, 1, 3, 0, 16}, {3, 1, 20, 1, 0, 16},
	} {
		expectNoBeacon(t, varintsOf(n...))
	}
}

// Whatever is decoded, its encoding is the very same bytes.
func TestDecodeBeaconAgainstReference(t *testing.T) {
	random := rand.New(rand.NewPCG(24, 1))
	choices := []int{0, 1, 2, 7, 8, 9, 10, 15, 16, 20, 127, 128, 300, 65535, 65536, lastBeacon - 10, lastBeacon, lastBeacon + 10}
	accepted := 0
	for range 40000 {
		period := 1 + random.IntN(8)
		n := []int{random.IntN(16), 10 * random.IntN(1<<random.IntN(36)), random.IntN(period), period, 0, random.IntN(65536)}
		if n[2] == 0 {
			n[4] = random.IntN(2)
		}
		if random.IntN(3) == 0 {
			n[random.IntN(6)] = choices[random.IntN(len(choices))]
		}
		code := varintsOf(n...)
		expectBeaconLikeReference(t, code)
		if b, ok := impl.DecodeBeacon(code); ok {
			accepted++
			expectBeaconCode(t, b, code)
		}
		code[random.IntN(len(code))] = byte(random.IntN(256))
		expectBeaconLikeReference(t, code)
		expectBeaconLikeReference(t, randomPayload(random, random.IntN(12)))
	}
	if accepted < 20000 || accepted > 39000 {
		t.Errorf("%d of the samples are valid", accepted)
	}
}

// All sequences of small numbers around their limits, with a map of one byte or of two.
func TestDecodeBeaconOfSmallNumbers(t *testing.T) {
	for first := range 5 {
		for second := range 12 {
			for third := range 4 {
				for fourth := range 10 {
					for fifth := range 4 {
						data := []byte{byte(first + 13), byte(second), byte(third), byte(fourth), byte(fifth), 200, 3}
						expectBeaconLikeReference(t, data)
						expectBeaconLikeReference(t, data[:6])
						data[5] = 100
						expectBeaconLikeReference(t, data)
						expectBeaconLikeReference(t, data[:6])
					}
				}
			}
		}
	}
}

func TestTimContains(t *testing.T) {
	b := beacon(1, 20, 1, 3, 1<<0|1<<4|1<<15)
	for station := -1; station <= 70; station++ {
		expectContains(t, b, station, station == 0 || station == 4 || station == 15)
	}
	for station := -1; station <= 16; station++ {
		expectContains(t, beacon(1, 20, 1, 3, 0), station, false)
		expectContains(t, beacon(1, 20, 1, 3, 65535), station, 0 <= station && station <= 15)
	}
	for _, station := range notStations {
		for _, tim := range someMaps() {
			expectContains(t, beacon(1, 20, 1, 3, tim), station, false)
		}
	}
}

func TestTimContainsSingleStations(t *testing.T) {
	for set := range 16 {
		for station := range 16 {
			expectContains(t, beacon(2, 10, 0, 1, 1<<set), station, station == set)
			expectContains(t, beacon(2, 10, 0, 1, 65535-1<<set), station, station != set)
		}
	}
}

// Neither the map nor another field has to be in range.
func TestTimContainsOfInvalidBeacons(t *testing.T) {
	for _, b := range slices.Concat(limitBeacons(), invalidBeacons()) {
		for station := range 16 {
			expectContains(t, b, station, containsReference(b.Tim, station))
		}
	}
	for _, tim := range someMaps() {
		for _, station := range slices.Concat(upTo(16), notStations) {
			expectContains(t, impl.Beacon{Tim: tim}, station, containsReference(tim, station))
		}
	}
	for station := range 16 {
		expectContains(t, impl.Beacon{Tim: -1}, station, true)
		expectContains(t, impl.Beacon{Tim: math.MinInt}, station, false)
		expectContains(t, impl.Beacon{Tim: math.MaxInt}, station, true)
		expectContains(t, impl.Beacon{Tim: 65536}, station, false)
	}
}

func TestSetTim(t *testing.T) {
	b := beacon(1, 20, 1, 3, 0)
	for _, c := range []struct {
		tim, station int
		kept         bool
		want         int
	}{
		{0, 4, true, 16}, {16, 4, true, 16}, {16, 4, false, 0}, {0, 4, false, 0}, {16, 3, true, 24}, {16, 5, true, 48}, {24, 4, false, 8}, {24, 3, false, 16},
		{0, 0, true, 1}, {1, 0, false, 0}, {0, 15, true, 32768}, {32768, 15, false, 0}, {65535, 0, false, 65534}, {65534, 0, true, 65535}, {65535, 15, false, 32767}, {32767, 15, true, 65535},
		{65535, 7, true, 65535}, {0, 7, false, 0},
		// a map that is not valid keeps its other bits
		{-1, 0, false, -2}, {-2, 0, true, -1}, {-1, 15, false, -32769}, {-65536, 15, true, -32768}, {65536, 0, true, 65537}, {65537, 0, false, 65536},
		{math.MinInt, 1, true, math.MinInt + 2}, {math.MaxInt, 1, false, math.MaxInt - 2}, {math.MinInt, 1, false, math.MinInt}, {math.MaxInt, 1, true, math.MaxInt},
	} {
		b.Tim = c.tim
		want := b
		want.Tim = c.want
		expectSet(t, b, c.station, c.kept, want)
	}
}

func TestSetTimOfOtherStations(t *testing.T) {
	for _, station := range notStations {
		for _, tim := range someMaps() {
			b := beacon(1, 20, 1, 3, tim)
			expectSet(t, b, station, true, b)
			expectSet(t, b, station, false, b)
		}
		for _, b := range []impl.Beacon{{}, {Tim: 65535, GroupTraffic: true}, withGroupTraffic(beacon(1, 30, 0, 3, 16)), beacon(-1, -1, -1, -1, -1)} {
			expectSet(t, b, station, true, b)
			expectSet(t, b, station, false, b)
		}
	}
}

// The other fields and the other bits stay as they are, whether the beacon is valid or not.
func TestSetTimAgainstReference(t *testing.T) {
	for _, b := range slices.Concat(limitBeacons(), invalidBeacons()) {
		for station := range 16 {
			expectSet(t, b, station, true, setReference(b, station, true))
			expectSet(t, b, station, false, setReference(b, station, false))
		}
	}
	for _, tim := range someMaps() {
		for _, station := range slices.Concat(upTo(16), notStations) {
			for _, b := range []impl.Beacon{{Tim: tim}, withGroupTraffic(beacon(3, 40, 0, 5, tim)), beacon(16, 41, 9, 8, tim)} {
				expectSet(t, b, station, true, setReference(b, station, true))
				expectSet(t, b, station, false, setReference(b, station, false))
			}
		}
	}
}

// After any stations have been set, in any order, the map contains exactly these, also when the beacon has been sent.
func TestBeaconAnnouncesExactlyTheSetStations(t *testing.T) {
	random := rand.New(rand.NewPCG(24, 2))
	for set := range 65536 {
		b := beacon(3, 120, 1, 4, 0)
		for _, station := range random.Perm(16) {
			if set>>station&1 == 1 {
				b = impl.SetTim(b, station, true)
			}
		}
		if b != beacon(3, 120, 1, 4, set) {
			t.Fatalf("after the stations of the map %b have been set, the beacon is %+v", set, b)
		}
		if set%7 != 0 {
			continue
		}
		sent, ok := impl.DecodeBeacon(impl.EncodeBeacon(b))
		for station := -1; station <= 16; station++ {
			if want := station >= 0 && set>>station&1 == 1; !ok || impl.TimContains(sent, station) != want {
				t.Errorf("the sent beacon %+v, of the map %b, does not say %v of station %d", sent, set, want, station)
			}
		}
	}
}

// In a long course, stations are set and cleared time and again.
func TestBeaconForgetsClearedStations(t *testing.T) {
	random := rand.New(rand.NewPCG(24, 3))
	for _, first := range []impl.Beacon{beacon(0, 0, 0, 1, 0), withGroupTraffic(beacon(15, lastBeacon, 0, 8, 65535)), {}, {Tim: -1}, {Tim: 1 << 16}} {
		b, kept := first, map[int]bool{}
		for station := range 16 {
			kept[station] = containsReference(first.Tim, station)
		}
		for range 2000 {
			station, set := random.IntN(20)-2, random.IntN(2) == 0
			b = impl.SetTim(b, station, set)
			if station >= 0 && station < 16 {
				kept[station] = set
			}
			for other := -2; other < 20; other++ {
				expectContains(t, b, other, kept[other])
			}
		}
		for station := range 16 {
			b = impl.SetTim(b, station, containsReference(first.Tim, station))
		}
		if b != first {
			t.Errorf("%+v has become %+v", first, b)
		}
	}
}

func TestNextBeaconSlot(t *testing.T) {
	for _, c := range [][2]int{
		{0, 10}, {1, 10}, {5, 10}, {8, 10}, {9, 10}, {10, 20}, {11, 20}, {19, 20}, {20, 30}, {21, 30}, {99, 100}, {100, 110}, {123456, 123460},
		{-1, 0}, {-2, 0}, {-3, 0}, {-9, 0}, {-10, 0}, {-11, 0}, {-lastBeacon, 0}, {math.MinInt, 0}, {math.MinInt + 1, 0},
		{999999999989, 999999999990}, {999999999990, 1000000000000}, {999999999998, 1000000000000}, {999999999999, 1000000000000},
		{1000000000000, 1000000000010}, {1000000000001, -1}, {1000000000002, -1}, {1000000000009, -1}, {1000000000010, -1}, {1 << 62, -1},
		{math.MaxInt - 10, -1}, {math.MaxInt - 1, -1}, {math.MaxInt, -1},
	} {
		expectNextBeacon(t, c[0], c[1])
	}
}

func TestNextBeaconSlotAgainstReference(t *testing.T) {
	for now := range 3000 {
		expectNextBeacon(t, now, nextBeaconReference(now))
		expectNextBeacon(t, lastBeacon-now, nextBeaconReference(lastBeacon-now))
		expectNextBeacon(t, lastBeacon+1+now, -1)
		expectNextBeacon(t, -1-now, 0)
	}
	for _, now := range integers() {
		switch {
		case now < 0:
			expectNextBeacon(t, now, 0)
		case now > lastBeacon:
			expectNextBeacon(t, now, -1)
		default:
			expectNextBeacon(t, now, nextBeaconReference(now))
		}
	}
}

func TestDtimCountAt(t *testing.T) {
	for slot, want := range map[int]int{
		0: 0, 10: 2, 20: 1, 30: 0, 40: 2, 50: 1, 60: 0, 1000000000000: 2, 999999999990: 0, 999999999980: 1,
		-30: -1, -20: -1, -10: -1, -1: -1, 1: -1, 5: -1, 9: -1, 11: -1, 29: -1, 31: -1, 999999999999: -1, 1000000000001: -1, 1000000000010: -1,
		math.MinInt: -1, math.MinInt + 8: -1, math.MaxInt - 7: -1, math.MaxInt: -1,
	} {
		expectCountAt(t, slot, 3, want)
	}
	for period, counts := range map[int][]int{
		1: {0, 0, 0, 0}, 2: {0, 1, 0, 1, 0}, 4: {0, 3, 2, 1, 0, 3}, 5: {0, 4, 3, 2, 1, 0, 4}, 6: {0, 5, 4, 3, 2, 1, 0, 5}, 7: {0, 6, 5, 4, 3, 2, 1, 0, 6}, 8: {0, 7, 6, 5, 4, 3, 2, 1, 0, 7},
		0: {-1, -1, -1}, 9: {-1, -1, -1}, -1: {-1, -1, -1}, -3: {-1, -1}, 10: {-1, -1}, math.MinInt: {-1, -1}, math.MaxInt: {-1, -1},
	} {
		for i, want := range counts {
			expectCountAt(t, 10*i, period, want)
		}
	}
	// 100000000000 beacons after the one in slot 0: the remainders are 0, 0, 1, 0, 0, 4, 5 and 0.
	for i, want := range []int{0, 0, 2, 0, 0, 2, 2, 0} {
		expectCountAt(t, lastBeacon, i+1, want)
	}
}

func TestDtimCountAtAgainstReference(t *testing.T) {
	for period := 1; period <= 8; period++ {
		for i := range 500 {
			for _, slot := range []int{10 * i, lastBeacon - 10*i} {
				expectCountAt(t, slot, period, countAtReference(slot, period))
				for beside := 1; beside < 10; beside++ {
					expectCountAt(t, slot+beside, period, -1)
				}
				expectCountAt(t, slot-1, period, -1)
			}
			expectCountAt(t, -10*i-10, period, -1)
			expectCountAt(t, lastBeacon+10*i+10, period, -1)
		}
		for _, slot := range beaconSlots {
			expectCountAt(t, slot, period, countAtReference(slot, period))
		}
	}
}

// One argument out of range suffices.
func TestDtimCountAtOutOfRange(t *testing.T) {
	for _, period := range slices.Concat(upTo(9)[1:], notPeriods) {
		for _, slot := range slices.Concat(beaconSlots, notBeaconSlots) {
			if slices.Contains(notPeriods, period) || slices.Contains(notBeaconSlots, slot) {
				expectCountAt(t, slot, period, -1)
			}
		}
	}
}

func TestNextDelivery(t *testing.T) {
	for _, c := range []struct {
		b    impl.Beacon
		want int
	}{
		{beacon(1, 20, 1, 3, 16), 30}, {beacon(1, 20, 2, 3, 16), 40}, {beacon(1, 20, 0, 3, 16), 20}, {withGroupTraffic(beacon(1, 20, 0, 3, 16)), 20},
		{beacon(0, 0, 0, 1, 0), 0}, {beacon(0, 0, 7, 8, 0), 70}, {beacon(15, 999999999990, 1, 2, 65535), 1000000000000}, {beacon(15, 1000000000000, 0, 2, 65535), 1000000000000},
		{beacon(15, 999999999990, 2, 3, 65535), 1000000000010}, {beacon(15, 1000000000000, 1, 2, 65535), 1000000000010}, {beacon(15, 1000000000000, 7, 8, 65535), 1000000000070},
		{impl.Beacon{}, -1}, {withGroupTraffic(beacon(1, 20, 1, 3, 16)), -1}, {beacon(1, 20, 3, 3, 16), -1}, {beacon(1, 21, 1, 3, 16), -1}, {beacon(16, 20, 1, 3, 16), -1}, {beacon(1, 20, 1, 3, 65536), -1},
		{beacon(1, -10, 1, 3, 16), -1}, {beacon(1, 1000000000010, 0, 3, 16), -1}, {beacon(1, 20, 0, 0, 16), -1}, {beacon(1, 20, 0, 9, 16), -1}, {beacon(1, 20, -1, 3, 16), -1}, {beacon(1, 20, 1, 3, -1), -1},
	} {
		expectNextDelivery(t, c.b, c.want)
	}
}

func TestNextDeliveryOfLimitBeacons(t *testing.T) {
	for _, b := range limitBeacons() {
		want := b.Slot
		for range b.DtimCount {
			want += 10
		}
		expectNextDelivery(t, b, want)
	}
	for _, b := range invalidBeacons() {
		expectNextDelivery(t, b, -1)
	}
}

// From beacon to beacon the count falls by one, until it is 0 in the slot that the beacons before have stated, and begins again.
func TestDeliveryBeaconsRecur(t *testing.T) {
	for period := 1; period <= 8; period++ {
		// The second course begins with a delivery beacon of every period, too.
		for _, start := range []int{-1, 840*1000 - 1, lastBeacon - 8400} {
			slot := impl.NextBeaconSlot(start)
			count := impl.DtimCountAt(slot, period)
			delivery := impl.NextDelivery(beacon(1, slot, count, period, 0))
			deliveries := []int{}
			for slot <= lastBeacon && len(deliveries) < 20 {
				b := beacon(1, slot, impl.DtimCountAt(slot, period), period, 0)
				if b.DtimCount != count || impl.NextDelivery(b) != delivery || (slot == delivery) != (count == 0) {
					t.Errorf("%+v is not as announced: count %d, delivery in slot %d", b, count, delivery)
				}
				expectValidBeacon(t, b, true)
				expectValidBeacon(t, withGroupTraffic(b), slot == delivery)
				count--
				if slot == delivery {
					deliveries = append(deliveries, slot)
					count, delivery = period-1, slot+10*period
				}
				slot = impl.NextBeaconSlot(slot)
			}
			if len(deliveries) < 20 {
				t.Errorf("after slot %d, there are %d deliveries with the period %d", start, len(deliveries), period)
			}
			for i := range deliveries[1:] {
				if deliveries[i+1]-deliveries[i] != 10*period {
					t.Errorf("with the period %d, the deliveries are in the slots %v", period, deliveries)
				}
			}
		}
		expectCountAt(t, 0, period, 0)
		expectCountAt(t, 8400, period, 0)
	}
}

func TestDecodeBeaconKeepsItsArgument(t *testing.T) {
	list := [][]byte{nil, {0}, {1, 20, 1, 3, 1, 16}, {1, 20, 1, 3, 0, 144, 0}, {1, 20, 1, 3, 0, 16, 0}, {128, 128, 128, 128, 128, 128, 128}}
	for _, b := range limitBeacons() {
		code := codeOfBeacon(b)
		list = append(list, code, code[:len(code)-1])
	}
	for _, data := range list {
		guarded := withSpare(data...)
		want, wantOK := decodedBeaconReference(data)
		for range 2 {
			expectBeacon(t, guarded, want, wantOK)
			checkSpare(t, "DecodeBeacon", guarded, data...)
		}
	}
}

func TestResultsOfEncodeBeaconShareNoMemory(t *testing.T) {
	for _, b := range slices.Concat(limitBeacons(), []impl.Beacon{{}, beacon(1, 21, 1, 3, 16)}) {
		want := []byte{}
		if validBeaconReference(b) {
			want = codeOfBeacon(b)
		}
		one, two := impl.EncodeBeacon(b), impl.EncodeBeacon(b)
		spoil(append(one, 1))
		spoil(one)
		if !slices.Equal(two, want) || !slices.Equal(impl.EncodeBeacon(b), want) {
			t.Errorf("two results of EncodeBeacon(%+v) share memory: %v", b, two)
		}
	}
}

// The functions take beacons as values, and what is done to the result of SetTim does not change the beacon it was made of.
func TestFunctionsOfBeaconsKeepTheirArguments(t *testing.T) {
	for _, b := range slices.Concat(limitBeacons(), invalidBeacons()) {
		before := b
		for station := -1; station <= 16; station++ {
			other := impl.SetTim(b, station, !impl.TimContains(b, station))
			impl.SetTim(other, (station+3)%16, true)
			if slices.Contains(upTo(16), station) == (other == b) {
				t.Errorf("SetTim(%+v, %d) to the other value is %+v", b, station, other)
			}
			expectContains(t, b, station, containsReference(before.Tim, station))
		}
		impl.IsValidBeacon(b)
		impl.EncodeBeacon(b)
		impl.NextDelivery(b)
		if b != before {
			t.Errorf("%+v has become %+v", before, b)
		}
	}
}

// The calls between two equal calls change nothing.
func TestBeaconsKeepNoState(t *testing.T) {
	answers := []string{}
	for range 2 {
		for i, b := range slices.Concat(limitBeacons(), invalidBeacons()) {
			decoded, ok := impl.DecodeBeacon(impl.EncodeBeacon(b))
			answers = append(answers, fmt.Sprint(decoded, ok, impl.IsValidBeacon(b), impl.NextDelivery(b), impl.TimContains(b, i%20-2), impl.SetTim(b, i%20-2, i%3 == 0),
				impl.NextBeaconSlot(b.Slot), impl.DtimCountAt(b.Slot, b.DtimPeriod)))
		}
	}
	half := len(answers) / 2
	if !slices.Equal(answers[:half], answers[half:]) {
		t.Error("answers differ from those to the same calls before")
	}
}
