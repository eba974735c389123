package tests

import (
	"math"
	"math/rand/v2"
	"slices"
	"testing"

	"loop.example/g00511/impl"
)

// half times impl.CaptureRatio wraps around to the least int.
const half = 1 << 62

var (
	goodPositions = []int{0, 1, 2, 499, 500, 998, 999, 1000}
	// The lowest bits of some of these are those of a position in range.
	badPositions = []int{-1, 1001, -2, -999, -1000, 1002, 1024, 65536, 1 << 32, 1<<32 + 5, -1<<32 + 5, math.MinInt, math.MinInt + 5, math.MaxInt - 1, math.MaxInt}
	// farPlaces are positions whose differences wrap around.
	farPlaces = []int{math.MinInt, math.MinInt + 1, -half, -1, 0, 1, half, math.MaxInt}
	// farLimits are for Range and Sense.
	farLimits = []int{math.MinInt, -half, -2, -1, 0, half, math.MaxInt}
)

// noStations are never indices of count positions.
func noStations(count int) []int {
	return []int{-1, count, -2, -count - 1, count + 1, count + 256, 1 << 32, -1 << 32, math.MinInt, math.MinInt + 1, math.MaxInt - 1, math.MaxInt}
}

func onLine(reach int, sense int, positions ...int) impl.Placement {
	return impl.Placement{Positions: positions, Range: reach, Sense: sense}
}

func exists(p impl.Placement, station int) bool {
	return station >= 0 && station < len(p.Positions)
}

// distanceReference subtracts without signs, which wraps around like Go's int.
func distanceReference(p impl.Placement, a int, b int) int {
	if !exists(p, a) || !exists(p, b) {
		return -1
	}
	low, high := p.Positions[a], p.Positions[b]
	if low > high {
		low, high = high, low
	}
	return int(uint64(high) - uint64(low))
}

// reachReference is for stations that are in reach of each other by this limit.
func reachReference(p impl.Placement, a int, b int, limit int) bool {
	return exists(p, a) && exists(p, b) && a != b && distanceReference(p, a, b) <= limit
}

// prevails tells whether the sender at distance d is nearer than the other one, and near enough for the capture.
func prevails(d int, station int, otherD int, other int) bool {
	nearer := d < otherD || d == 0 && otherD == 0 && station < other
	return nearer && otherD >= d+d
}

// receivedReference asks of every station whether it is received beside each of the others.
func receivedReference(p impl.Placement, senders []int, receiver int) int {
	if slices.Contains(senders, receiver) {
		return -1
	}
	for _, s := range senders {
		if !reachReference(p, s, receiver, p.Sense) || !reachReference(p, s, receiver, p.Range) {
			continue
		}
		d, wins := distanceReference(p, s, receiver), true
		for _, other := range senders {
			if other != s && reachReference(p, other, receiver, p.Sense) {
				wins = wins && prevails(d, s, distanceReference(p, other, receiver), other)
			}
		}
		if wins {
			return s
		}
	}
	return -1
}

func hiddenReference(p impl.Placement, a int, b int, receiver int) bool {
	return reachReference(p, a, receiver, p.Range) && reachReference(p, b, receiver, p.Range) && a != b && !reachReference(p, a, b, p.Sense)
}

func exposedReference(p impl.Placement, a int, b int, x int, y int) bool {
	different := a != b && a != x && a != y && b != x && b != y && x != y
	exist := exists(p, a) && exists(p, b) && exists(p, x) && exists(p, y)
	hear := reachReference(p, x, a, p.Range) && reachReference(p, y, b, p.Range) && reachReference(p, a, b, p.Sense)
	return different && exist && hear && receivedReference(p, []int{a, b}, x) == a && receivedReference(p, []int{b, a}, y) == b
}

// placements calls visit with every placement of these positions whose Range and Sense are among the limits.
func placements(positions [][]int, limits []int, visit func(impl.Placement)) {
	for _, list := range positions {
		for _, reach := range limits {
			for _, sense := range limits {
				visit(onLine(reach, sense, list...))
			}
		}
	}
}

// fourPlaces are all lists of four of these positions.
func fourPlaces(choice []int) [][]int {
	return slices.DeleteFunc(shortLists(choice, 4), func(list []int) bool { return len(list) != 4 })
}

func randomPlacement(random *rand.Rand) impl.Placement {
	p := onLine(1+random.IntN(60), 0)
	p.Sense = p.Range + random.IntN(60)
	for range 1 + random.IntN(16) {
		p.Positions = append(p.Positions, random.IntN(100))
	}
	return p
}

// randomSenders are stations of which some occur several times or do not exist.
func randomSenders(random *rand.Rand, count int) []int {
	senders := []int{}
	for range random.IntN(8) {
		senders = append(senders, random.IntN(count+4)-2)
	}
	return senders
}

func expectValidPlacement(t *testing.T, p impl.Placement, want bool) {
	t.Helper()
	if got := impl.IsValidPlacement(p); got != want {
		t.Fatalf("IsValidPlacement(%v) is %v", p, got)
	}
}

// expectDistance expects the distance in both orders.
func expectDistance(t *testing.T, p impl.Placement, a int, b int, want int) {
	t.Helper()
	if there, back := impl.Distance(p, a, b), impl.Distance(p, b, a); there != want || back != want {
		t.Fatalf("Distance(%v, %d, %d) is %d, and in the other order %d, not %d", p, a, b, there, back, want)
	}
}

// expectHearing also checks a part of promise 13: hearing is symmetric.
func expectHearing(t *testing.T, p impl.Placement, a int, b int, receives bool, senses bool) {
	t.Helper()
	if there, back := impl.CanReceive(p, a, b), impl.CanReceive(p, b, a); there != receives || back != receives {
		t.Fatalf("CanReceive(%v, %d, %d) is %v, and in the other order %v", p, a, b, there, back)
	}
	if there, back := impl.CanSense(p, a, b), impl.CanSense(p, b, a); there != senses || back != senses {
		t.Fatalf("CanSense(%v, %d, %d) is %v, and in the other order %v", p, a, b, there, back)
	}
}

func expectNeighbors(t *testing.T, p impl.Placement, a int, want ...int) {
	t.Helper()
	if got := impl.NeighborsOf(p, a); !slices.Equal(got, want) {
		t.Fatalf("NeighborsOf(%v, %d) is %v, not %v", p, a, got, want)
	}
}

// expectHidden expects the same of a and b in both orders.
func expectHidden(t *testing.T, p impl.Placement, a int, b int, receiver int, want bool) {
	t.Helper()
	if there, back := impl.IsHidden(p, a, b, receiver), impl.IsHidden(p, b, a, receiver); there != want || back != want {
		t.Fatalf("IsHidden(%v, %d, %d, %d) is %v, and with the first two exchanged %v", p, a, b, receiver, there, back)
	}
}

// expectExposed expects the same of both transmissions in both orders.
func expectExposed(t *testing.T, p impl.Placement, a int, b int, x int, y int, want bool) {
	t.Helper()
	if there, back := impl.IsExposed(p, a, b, x, y), impl.IsExposed(p, b, a, y, x); there != want || back != want {
		t.Fatalf("IsExposed(%v, %d, %d, %d, %d) is %v, and with the transmissions exchanged %v", p, a, b, x, y, there, back)
	}
}

func expectReceivedFrom(t *testing.T, p impl.Placement, senders []int, receiver int, want int) {
	t.Helper()
	if got := impl.ReceivedFrom(p, senders, receiver); got != want {
		t.Fatalf("ReceivedFrom(%v, %v, %d) is %d, not %d", p, senders, receiver, got, want)
	}
}

// expectInEveryOrder expects the same of the senders in every order, and of each of them given twice or three times.
func expectInEveryOrder(t *testing.T, p impl.Placement, senders []int, receiver int, want int) {
	t.Helper()
	for _, order := range shortLists(upTo(len(senders)), len(senders)) {
		if !isOnce(order) || len(order) < len(senders) {
			continue
		}
		list := []int{}
		for _, i := range order {
			list = append(list, senders[i])
		}
		expectReceivedFrom(t, p, list, receiver, want)
		expectReceivedFrom(t, p, slices.Repeat(list, 2), receiver, want)
		for i := range list {
			expectReceivedFrom(t, p, slices.Insert(slices.Clone(list), i, list[i], list[i]), receiver, want)
		}
	}
}

func TestConstantsOfPlacement(t *testing.T) {
	if impl.MaxPosition != 1000 || impl.CaptureRatio != 2 {
		t.Error(impl.MaxPosition, impl.CaptureRatio)
	}
}

func TestIsValidPlacementOfCounts(t *testing.T) {
	expectValidPlacement(t, impl.Placement{}, false)
	expectValidPlacement(t, impl.Placement{Range: 20, Sense: 40}, false)
	expectValidPlacement(t, impl.Placement{Positions: []int{}, Range: 20, Sense: 40}, false)
	for count := 1; count <= 16; count++ {
		expectValidPlacement(t, onLine(20, 40, make([]int, count)...), true)
		expectValidPlacement(t, onLine(20, 40, upTo(count)...), true)
	}
	for _, count := range []int{17, 18, 31, 32, 33, 63, 64, 256, 257, 65537} {
		expectValidPlacement(t, onLine(20, 40, make([]int, count)...), false)
	}
	// What is behind the positions in memory does not count.
	spare := make([]int, 16, 32)
	expectValidPlacement(t, onLine(20, 40, spare...), true)
	expectValidPlacement(t, onLine(20, 40, spare[:0]...), false)
}

// Positions are in no order, and may be equal.
func TestIsValidPlacementOfPositions(t *testing.T) {
	for _, length := range []int{1, 2, 3, 4, 15, 16} {
		for _, place := range []int{0, length / 2, length - 1} {
			for _, other := range []int{0, 7, 1000} {
				list := slices.Repeat([]int{other}, length)
				for _, v := range goodPositions {
					expectValidPlacement(t, onLine(20, 40, with(list, place, v)...), true)
				}
				for _, v := range badPositions {
					expectValidPlacement(t, onLine(20, 40, with(list, place, v)...), false)
				}
			}
		}
	}
	for _, v := range badPositions {
		expectValidPlacement(t, onLine(20, 40, v, v, v), false)
	}
	expectValidPlacement(t, onLine(20, 40, goodPositions...), true)
	expectValidPlacement(t, onLine(20, 40, 1000, 500, 500, 0, 1000), true)
}

func TestIsValidPlacementOfRangeAndSense(t *testing.T) {
	for _, c := range []struct {
		reach, sense int
		want         bool
	}{
		{1, 1, true}, {1, 2, true}, {1, 1000, true}, {20, 20, true}, {20, 21, true}, {999, 1000, true}, {1000, 1000, true}, {20, 999, true},
		{-1, 40, false}, {0, 40, false}, {0, 0, false}, {-1, -1, false}, {-2, -1, false}, {0, 1, false}, {math.MinInt, 40, false}, {math.MaxInt, 40, false},
		{41, 40, false}, {2, 1, false}, {1, 0, false}, {1, -1, false}, {20, 19, false}, {20, 0, false}, {1000, 999, false},
		{20, 1001, false}, {1000, 1001, false}, {1001, 1001, false}, {1001, 1000, false}, {20, math.MaxInt, false}, {20, math.MinInt, false},
		{math.MaxInt, math.MaxInt, false}, {math.MinInt, math.MinInt, false}, {math.MinInt, math.MaxInt, false}, {math.MaxInt, math.MinInt, false},
		{1<<32 + 1, 40, false}, {1, 1<<32 + 1, false}, {-1<<32 + 1, 40, false}, {1 << 32, 1<<32 + 5, false},
	} {
		for _, positions := range [][]int{{0}, {1000}, {0, 10, 30, 80}, upTo(16)} {
			expectValidPlacement(t, onLine(c.reach, c.sense, positions...), c.want)
		}
		// No positions are never right.
		expectValidPlacement(t, onLine(c.reach, c.sense), false)
	}
	for sense := -2; sense <= 1002; sense++ {
		for reach := -2; reach <= 1002; reach++ {
			expectValidPlacement(t, onLine(reach, sense, 5), reach > 0 && sense < 1001 && sense-reach >= 0)
		}
	}
}

func TestDistance(t *testing.T) {
	p := onLine(20, 40, 0, 10, 30, 80, 10, 1000)
	for _, c := range [][3]int{
		{0, 1, 10}, {0, 2, 30}, {0, 3, 80}, {1, 2, 20}, {1, 3, 70}, {2, 3, 50}, {0, 5, 1000}, {3, 5, 920},
		// at one position, and a station and itself
		{1, 4, 0}, {0, 0, 0}, {1, 1, 0}, {2, 2, 0}, {3, 3, 0}, {4, 4, 0}, {5, 5, 0},
	} {
		expectDistance(t, p, c[0], c[1], c[2])
	}
}

func TestDistanceWrapsAround(t *testing.T) {
	for _, c := range [][3]int{
		// negative positions
		{-5, 5, 10}, {-5, 0, 5}, {-5, -7, 2}, {-1, -1, 0}, {-1000, 1000, 2000}, {1001, 0, 1001}, {-1 << 32, 1 << 32, 1 << 33},
		// the greatest difference without wrapping
		{0, math.MaxInt, math.MaxInt}, {-1, math.MaxInt - 1, math.MaxInt}, {math.MinInt, -1, math.MaxInt}, {math.MinInt + 1, 0, math.MaxInt},
		// beyond it
		{-1, math.MaxInt, math.MinInt}, {math.MinInt, 0, math.MinInt}, {math.MinInt, 1, math.MinInt + 1}, {-2, math.MaxInt, math.MinInt + 1},
		{math.MinInt, math.MaxInt, -1}, {math.MinInt + 1, math.MaxInt, -2}, {math.MinInt, math.MaxInt - 1, -2}, {math.MinInt + 5, math.MaxInt - 5, -11},
		{-half, half, math.MinInt}, {-half, half - 1, math.MaxInt}, {math.MinInt, half, -half},
		{math.MinInt, math.MinInt, 0}, {math.MaxInt, math.MaxInt, 0}, {math.MinInt, math.MinInt + 1, 1}, {math.MaxInt, math.MaxInt - 7, 7},
	} {
		for _, limit := range []int{-1, 0, 20} {
			expectDistance(t, onLine(limit, limit, c[0], c[1]), 0, 1, c[2])
			expectDistance(t, onLine(limit, limit, 3, c[1], 4, c[0], 5), 1, 3, c[2])
		}
	}
}

// Range and Sense do not matter, and neither does the number of positions.
func TestDistanceAgainstReference(t *testing.T) {
	for _, positions := range [][]int{{7}, {0, 1000}, goodPositions, badPositions, farPlaces, upTo(16), upTo(40)} {
		for _, limit := range []int{-1, 0, 20, math.MaxInt} {
			p := onLine(limit, 40, positions...)
			for a := range positions {
				for b := range positions {
					expectDistance(t, p, a, b, distanceReference(p, a, b))
				}
			}
		}
	}
}

func TestDistanceOfNoStations(t *testing.T) {
	for _, positions := range [][]int{nil, {}, {7}, {0, 0}, {0, 10, 30, 80}, farPlaces, upTo(16), upTo(17)} {
		p := onLine(20, 40, positions...)
		for _, a := range noStations(len(positions)) {
			for b := range positions {
				expectDistance(t, p, a, b, -1)
			}
			for _, b := range noStations(len(positions)) {
				expectDistance(t, p, a, b, -1)
			}
		}
	}
	expectDistance(t, impl.Placement{}, 0, 0, -1)
	expectDistance(t, onLine(20, 40, upTo(17)...), 16, 0, 16)
}

func TestHearingAtTheLimits(t *testing.T) {
	for _, c := range []struct {
		reach, sense, distance int
		receives, senses       bool
	}{
		{20, 40, 0, true, true}, {20, 40, 1, true, true}, {20, 40, 19, true, true}, {20, 40, 20, true, true}, {20, 40, 21, false, true},
		{20, 40, 39, false, true}, {20, 40, 40, false, true}, {20, 40, 41, false, false}, {20, 40, 1000, false, false},
		{20, 20, 20, true, true}, {20, 20, 21, false, false}, {1000, 1000, 1000, true, true}, {999, 1000, 1000, false, true}, {1, 1, 1, true, true}, {1, 1, 2, false, false},
		// placements that are not valid
		{0, 0, 0, true, true}, {0, 0, 1, false, false}, {0, 1, 1, false, true}, {-1, 0, 0, false, true}, {-1, -1, 0, false, false}, {-1, 40, 40, false, true},
		{40, 20, 20, true, true}, {40, 20, 21, true, false}, {40, 20, 40, true, false}, {40, 20, 41, false, false}, {40, -1, 0, true, false}, {40, 0, 1, true, false},
		{math.MaxInt, 20, 1000, true, false}, {20, math.MaxInt, 1000, false, true}, {math.MaxInt, math.MaxInt, 1000, true, true},
		{math.MinInt, 20, 0, false, true}, {20, math.MinInt, 0, true, false}, {1001, 2000, 1001, true, true}, {1001, 2000, 2001, false, false},
	} {
		for _, start := range []int{0, 5, 1000, -70} {
			expectHearing(t, onLine(c.reach, c.sense, start, start+c.distance), 0, 1, c.receives, c.senses)
			expectHearing(t, onLine(c.reach, c.sense, 3, start+c.distance, 4, start), 1, 3, c.receives, c.senses)
		}
	}
}

// Distances that wrap around may be less than 0, also less than those limits.
func TestHearingThatWrapsAround(t *testing.T) {
	for _, c := range []struct {
		low, high, limit int
		want             bool
	}{
		{math.MinInt, math.MaxInt, -1, true}, {math.MinInt, math.MaxInt, -2, false}, {math.MinInt, math.MaxInt, 0, true}, {math.MinInt, math.MaxInt, 20, true},
		{math.MinInt, math.MaxInt, math.MinInt, false}, {math.MinInt + 1, math.MaxInt, -2, true}, {math.MinInt + 1, math.MaxInt, -3, false},
		{math.MinInt, 0, math.MinInt, true}, {math.MinInt, 0, 20, true}, {-1, math.MaxInt, math.MinInt, true}, {math.MinInt, 1, math.MinInt, false}, {math.MinInt, 1, math.MinInt + 1, true},
		{0, math.MaxInt, math.MaxInt, true}, {0, math.MaxInt, math.MaxInt - 1, false}, {math.MinInt, -1, math.MaxInt - 1, false}, {math.MinInt, -1, math.MaxInt, true},
	} {
		expectHearing(t, onLine(c.limit, -100, c.low, c.high), 0, 1, c.want, distanceReference(onLine(0, 0, c.low, c.high), 0, 1) <= -100)
		expectHearing(t, onLine(c.limit, c.limit, c.high, 5, c.low), 0, 2, c.want, c.want)
	}
}

// A station does not hear itself, and no station hears one that does not exist, whose distance is -1.
func TestHearingOfItselfAndOfNoStations(t *testing.T) {
	limits := []int{-2, -1, 0, 1, 20, 1000, math.MinInt, math.MaxInt - 1, math.MaxInt}
	placements([][]int{{}, {7}, {0, 0, 0}, {0, 10, 30, 80}, farPlaces, upTo(17)}, limits, func(p impl.Placement) {
		for a := range p.Positions {
			expectHearing(t, p, a, a, false, false)
		}
		for _, a := range noStations(len(p.Positions)) {
			for b := range p.Positions {
				expectHearing(t, p, a, b, false, false)
			}
			for _, b := range noStations(len(p.Positions)) {
				expectHearing(t, p, a, b, false, false)
			}
		}
	})
}

func TestHearingAgainstReference(t *testing.T) {
	check := func(p impl.Placement) {
		for a := -1; a <= len(p.Positions); a++ {
			neighbors := []int{}
			for b := -1; b <= len(p.Positions); b++ {
				expectHearing(t, p, a, b, reachReference(p, a, b, p.Range), reachReference(p, a, b, p.Sense))
				if reachReference(p, a, b, p.Range) {
					neighbors = append(neighbors, b)
				}
			}
			expectNeighbors(t, p, a, neighbors...)
		}
	}
	placements(shortLists(upTo(5), 3), []int{-1, 0, 1, 2, 3, 4, 5}, check)
	placements(shortLists(farPlaces, 3), farLimits, check)
	random := rand.New(rand.NewPCG(13, 1))
	for range 2000 {
		check(randomPlacement(random))
	}
	check(onLine(20, 40, upTo(100)...))
}

func TestNeighborsOf(t *testing.T) {
	p := onLine(20, 40, 0, 10, 30, 80)
	expectNeighbors(t, p, 0, 1)
	expectNeighbors(t, p, 1, 0, 2)
	expectNeighbors(t, p, 2, 1)
	expectNeighbors(t, p, 3)
	// all others, in the order of their numbers and not of their positions
	q := onLine(50, 50, 40, 10, 50, 0, 30)
	for a := range 5 {
		expectNeighbors(t, q, a, slices.DeleteFunc(upTo(5), func(b int) bool { return b == a })...)
	}
	// several at one position, and one exactly at Range
	r := onLine(7, 9, 7, 0, 7, 14, 7, 15, 0)
	expectNeighbors(t, r, 0, 1, 2, 3, 4, 6)
	expectNeighbors(t, r, 2, 0, 1, 3, 4, 6)
	expectNeighbors(t, r, 1, 0, 2, 4, 6)
	expectNeighbors(t, r, 3, 0, 2, 4, 5)
	expectNeighbors(t, r, 5, 3)
	expectNeighbors(t, onLine(0, 9, 7, 0, 7, 14, 7), 4, 0, 2)
	// Sense does not count, and a station out of Range does not end the search.
	expectNeighbors(t, onLine(5, 1000, 0, 6, 5, 12), 0, 2)
	expectNeighbors(t, onLine(5, 1, 0, 6, 5, 12), 0, 2)
	expectNeighbors(t, onLine(5, 5, 3), 0)
	expectNeighbors(t, onLine(-1, 5, 3, 3), 0)
	expectNeighbors(t, onLine(math.MaxInt, 5, 3, -90, 90000), 1, 0, 2)
	expectNeighbors(t, onLine(20, 40, make([]int, 17)...), 16, upTo(16)...)
	for _, positions := range [][]int{nil, {}, {0}, {0, 0}, {0, 10, 30, 80}, make([]int, 16)} {
		for _, a := range noStations(len(positions)) {
			expectNeighbors(t, onLine(20, 40, positions...), a)
			expectNeighbors(t, onLine(math.MaxInt, math.MaxInt, positions...), a)
		}
	}
}

func TestIsHidden(t *testing.T) {
	// They sense each other at exactly Sense, and do not at one beyond.
	expectHidden(t, onLine(20, 40, 0, 20, 40), 0, 2, 1, false)
	expectHidden(t, onLine(20, 39, 0, 20, 40), 0, 2, 1, true)
	expectHidden(t, onLine(20, 20, 0, 20, 40), 0, 2, 1, true)
	expectHidden(t, onLine(20, 30, 0, 15, 30), 0, 2, 1, false)
	expectHidden(t, onLine(20, 30, 0, 15, 31), 0, 2, 1, true)
	expectHidden(t, onLine(20, 30, 0, 11, 31), 0, 2, 1, true)
	// The receiver hears only one of them, or none.
	expectHidden(t, onLine(20, 30, 0, 10, 31), 0, 2, 1, false)
	expectHidden(t, onLine(20, 30, 0, 21, 31), 0, 2, 1, false)
	expectHidden(t, onLine(20, 30, 0, 25, 50), 0, 2, 1, false)
	// With a greater Range than Sense, also neighbors are hidden from each other.
	expectHidden(t, onLine(40, 20, 0, 20, 40), 0, 2, 1, true)
	expectHidden(t, onLine(40, 20, 0, 30, 20), 0, 2, 1, false)
	expectHidden(t, onLine(40, 20, 0, 30, 21), 0, 2, 1, true)
	expectHidden(t, onLine(40, -1, 0, 0, 0), 0, 2, 1, true)
	expectHidden(t, onLine(40, 0, 0, 0, 0), 0, 2, 1, false)
	expectHidden(t, onLine(-1, -1, 0, 0, 0), 0, 2, 1, false)
}

// A single station is hidden neither from itself nor at itself, although it does not sense itself.
func TestIsHiddenOfEqualStations(t *testing.T) {
	for _, sense := range []int{20, 30, 40, -1, math.MaxInt} {
		p := onLine(20, sense, 0, 20, 40, 20)
		for a := range 4 {
			for b := range 4 {
				expectHidden(t, p, a, a, b, false)
				expectHidden(t, p, a, b, a, false)
				expectHidden(t, p, b, a, a, false)
			}
		}
	}
	p := onLine(20, 20, 0, 20, 40, 20)
	expectHidden(t, p, 0, 2, 1, true)
	expectHidden(t, p, 0, 2, 3, true)
}

func TestIsHiddenOfNoStations(t *testing.T) {
	for _, p := range []impl.Placement{onLine(20, 20, 0, 20, 40), onLine(math.MaxInt, -2, 0, 20, 40), onLine(math.MaxInt, math.MinInt, 0, 20, 40)} {
		expectHidden(t, p, 0, 2, 1, true)
		for _, v := range noStations(3) {
			expectHidden(t, p, v, 2, 1, false)
			expectHidden(t, p, 0, v, 1, false)
			expectHidden(t, p, 0, 2, v, false)
			expectHidden(t, p, v, v, 1, false)
			expectHidden(t, p, v, v, v, false)
		}
	}
	expectHidden(t, impl.Placement{}, 0, 2, 1, false)
	expectHidden(t, impl.Placement{}, 0, 0, 0, false)
}

func TestIsHiddenAgainstReference(t *testing.T) {
	check := func(p impl.Placement) {
		for a := -1; a <= 3; a++ {
			for b := -1; b <= a; b++ {
				for receiver := -1; receiver <= 3; receiver++ {
					expectHidden(t, p, a, b, receiver, hiddenReference(p, a, b, receiver))
				}
			}
		}
	}
	placements(shortLists(upTo(5), 3), []int{-1, 0, 1, 2, 3, 4}, check)
	placements(shortLists(farPlaces, 3), farLimits, check)
}

// exposedPlacement has the stations a, b, x and y, which the four arguments 0, 1, 2 and 3 of IsExposed name.
func exposedPlacement(reach int, sense int, a int, b int, x int, y int) impl.Placement {
	return onLine(reach, sense, a, b, x, y)
}

func TestIsExposed(t *testing.T) {
	for _, c := range []struct {
		reach, sense int
		places       [4]int
		want         bool
	}{
		{20, 40, [4]int{40, 60, 30, 70}, true}, {20, 40, [4]int{40, 60, 70, 30}, false},
		// x beyond Range of a, and y beyond Range of b
		{10, 40, [4]int{40, 60, 30, 70}, true}, {10, 40, [4]int{40, 60, 29, 70}, false}, {10, 40, [4]int{40, 60, 30, 71}, false}, {9, 40, [4]int{40, 60, 30, 70}, false},
		// a and b that sense each other at exactly Sense, and do not at one beyond
		{20, 20, [4]int{40, 60, 30, 70}, true}, {20, 20, [4]int{40, 61, 30, 71}, false}, {20, 21, [4]int{40, 61, 30, 71}, true}, {10, 19, [4]int{40, 60, 30, 70}, false},
		// a disturbed by b at x, and b by a at y
		{20, 40, [4]int{40, 60, 45, 70}, true}, {20, 40, [4]int{40, 60, 46, 70}, true}, {20, 40, [4]int{40, 60, 47, 70}, false}, {20, 40, [4]int{40, 60, 30, 54}, true},
		{20, 40, [4]int{40, 60, 30, 53}, false}, {20, 40, [4]int{40, 60, 46, 54}, true}, {20, 40, [4]int{40, 60, 50, 70}, false}, {20, 40, [4]int{40, 60, 30, 50}, false},
		{20, 40, [4]int{40, 60, 20, 80}, true}, {21, 41, [4]int{40, 60, 19, 80}, false}, {21, 40, [4]int{40, 60, 19, 80}, true}, {21, 41, [4]int{40, 60, 20, 81}, false},
		// all at one position: the lower number is received everywhere
		{20, 40, [4]int{5, 5, 5, 5}, false}, {20, 40, [4]int{5, 6, 5, 6}, true}, {20, 40, [4]int{5, 6, 6, 5}, false}, {1, 1, [4]int{5, 6, 5, 6}, true},
		// placements that are not valid
		{40, 20, [4]int{40, 60, 20, 80}, true}, {40, 20, [4]int{40, 60, 19, 80}, false}, {40, 20, [4]int{40, 60, 20, 81}, false}, {40, 19, [4]int{40, 60, 30, 70}, false},
		{0, 1, [4]int{5, 6, 5, 6}, true}, {-1, 1, [4]int{5, 6, 5, 6}, false}, {1, 0, [4]int{5, 6, 5, 6}, false}, {20, -1, [4]int{40, 60, 30, 70}, false},
		{20, 40, [4]int{-10, 10, -20, 20}, true}, {math.MaxInt, math.MaxInt, [4]int{2000, 3000, 1500, 3500}, true}, {math.MaxInt, math.MinInt, [4]int{40, 60, 30, 70}, false},
	} {
		p := exposedPlacement(c.reach, c.sense, c.places[0], c.places[1], c.places[2], c.places[3])
		expectExposed(t, p, 0, 1, 2, 3, c.want)
		// the same places with other numbers of the stations
		q := exposedPlacement(c.reach, c.sense, c.places[3], c.places[0], c.places[2], c.places[1])
		expectExposed(t, q, 1, 3, 2, 0, c.want)
	}
}

// The places of each two stations are equal too, so that only their numbers can tell them apart.
func TestIsExposedOfEqualStations(t *testing.T) {
	for _, p := range []impl.Placement{
		exposedPlacement(20, 40, 40, 60, 30, 70), exposedPlacement(20, 40, 40, 40, 40, 40), exposedPlacement(20, 40, 5, 6, 5, 6), exposedPlacement(math.MaxInt, math.MaxInt, 5, 6, 5, 6),
	} {
		for _, list := range fourPlaces(upTo(4)) {
			if !isOnce(list) {
				expectExposed(t, p, list[0], list[1], list[2], list[3], false)
			}
		}
	}
}

// ReceivedFrom is -1 where nothing is received, but no station has this number.
func TestIsExposedOfNoStations(t *testing.T) {
	for _, p := range []impl.Placement{exposedPlacement(20, 40, 40, 60, 30, 70), exposedPlacement(20, math.MaxInt, 40, 60, 30, 70), onLine(20, 40)} {
		for _, v := range noStations(len(p.Positions)) {
			for places := 1; places < 16; places++ {
				list := upTo(4)
				for i := range 4 {
					if places>>i&1 == 1 {
						list[i] = v
					}
				}
				expectExposed(t, p, list[0], list[1], list[2], list[3], false)
			}
		}
	}
	p := exposedPlacement(10, 40, 40, 60, 20, 90)
	expectExposed(t, p, -1, 4, 2, 3, false)
	expectExposed(t, p, -1, 1, 2, 3, false)
	expectExposed(t, p, 0, -1, 2, 3, false)
	expectExposed(t, impl.Placement{}, 0, 1, 2, 3, false)
	expectExposed(t, impl.Placement{}, -1, -1, -1, -1, false)
}

func TestIsExposedAgainstReference(t *testing.T) {
	stationsOfFour := fourPlaces(upTo(4))
	placements(fourPlaces(upTo(5)), []int{0, 1, 2, 3}, func(p impl.Placement) {
		for _, list := range stationsOfFour {
			expectExposed(t, p, list[0], list[1], list[2], list[3], exposedReference(p, list[0], list[1], list[2], list[3]))
		}
	})
	placements(fourPlaces([]int{math.MinInt, math.MinInt + 2, -1, 0, math.MaxInt - 2, math.MaxInt}), farLimits, func(p impl.Placement) {
		expectExposed(t, p, 0, 1, 2, 3, exposedReference(p, 0, 1, 2, 3))
		expectExposed(t, p, 3, 1, 0, 2, exposedReference(p, 3, 1, 0, 2))
	})
	around := fourPlaces([]int{-1, 0, 1, 2, 3, 4})
	for _, p := range []impl.Placement{exposedPlacement(20, 40, 40, 60, 30, 70), exposedPlacement(20, 40, 5, 6, 5, 6), exposedPlacement(1, 2, 4, 2, 1, 4)} {
		for _, list := range around {
			expectExposed(t, p, list[0], list[1], list[2], list[3], exposedReference(p, list[0], list[1], list[2], list[3]))
		}
	}
}

// One sender, at each side of the receiver.
func TestReceivedFromOne(t *testing.T) {
	for _, c := range []struct{ distance, want int }{
		{0, 1}, {1, 1}, {19, 1}, {20, 1}, {21, -1}, {39, -1}, {40, -1}, {41, -1}, {100, -1},
	} {
		for _, p := range []impl.Placement{onLine(20, 40, 100, 100+c.distance), onLine(20, 40, 100, 100-c.distance), onLine(20, 20, 100, 100+c.distance), onLine(20, 1000, 100, 100-c.distance)} {
			expectInEveryOrder(t, p, []int{1}, 0, c.want)
			expectReceivedFrom(t, p, []int{1, -1, 2}, 0, c.want)
		}
	}
	p := onLine(20, 40, 0, 10, 30, 80)
	for receiver := range 4 {
		expectReceivedFrom(t, p, nil, receiver, -1)
		expectReceivedFrom(t, p, []int{}, receiver, -1)
	}
}

func TestReceivedFromTwo(t *testing.T) {
	for _, c := range []struct{ first, second, want int }{
		// a second sender at exactly the ratio, one nearer and one farther
		{10, 20, 1}, {10, 19, -1}, {10, 21, 1}, {1, 2, 1}, {1, 3, 1}, {20, 40, 1}, {20, 39, -1}, {20, 41, 1}, {19, 38, 1}, {19, 37, -1}, {7, 14, 1}, {7, 13, -1}, {7, 15, 1},
		// both beside each other, and at the same distance
		{10, 11, -1}, {1, 1, -1}, {2, 2, -1}, {2, 3, -1}, {10, 10, -1}, {20, 20, -1}, {21, 21, -1}, {40, 40, -1}, {41, 41, -1},
		// at the position of the receiver
		{0, 0, 1}, {0, 1, 1}, {0, 2, 1}, {0, 20, 1}, {0, 40, 1}, {0, 41, 1},
		// the nearest one out of Range, or the second one not sensed
		{21, 42, -1}, {21, 40, -1}, {21, 22, -1}, {20, 100, 1}, {41, 100, -1}, {1, 1000, 1},
	} {
		for _, sides := range [][2]int{{1, 1}, {1, -1}, {-1, 1}, {-1, -1}} {
			p := onLine(20, 40, 2000, 2000+sides[0]*c.first, 2000+sides[1]*c.second)
			expectInEveryOrder(t, p, []int{1, 2}, 0, c.want)
			expectReceivedFrom(t, p, []int{2, 3, 1, -1}, 0, c.want)
			// with the other numbers, so that the farther one has the lower number
			q := onLine(20, 40, 2000+sides[1]*c.second, 2000+sides[0]*c.first, 2000)
			want := c.want
			if c.first == 0 && c.second == 0 {
				want = 0
			}
			expectInEveryOrder(t, q, []int{0, 1}, 2, want)
		}
	}
}

// The receiver is station 0; a third sender may disturb although the second one does not.
func TestReceivedFromSeveral(t *testing.T) {
	for _, c := range []struct {
		distances []int
		want      int
	}{
		{[]int{10, 20, 20}, 1}, {[]int{10, 20, 19}, -1}, {[]int{10, 19, 20}, -1}, {[]int{10, 30, 15}, -1}, {[]int{10, 15, 30}, -1}, {[]int{30, 10, 19}, -1}, {[]int{19, 10, 30}, -1},
		{[]int{30, 20, 10}, 3}, {[]int{20, 10, 20}, 2}, {[]int{40, 40, 20}, 3}, {[]int{39, 40, 20}, -1}, {[]int{41, 40, 20}, 3}, {[]int{41, 50, 20}, 3},
		{[]int{10, 10, 30}, -1}, {[]int{30, 10, 10}, -1}, {[]int{10, 30, 10}, -1}, {[]int{10, 10, 10}, -1}, {[]int{10, 10, 5}, 3}, {[]int{10, 9, 5}, -1},
		// at the position of the receiver
		{[]int{0, 0, 0}, 1}, {[]int{1, 0, 0}, 2}, {[]int{0, 1, 0}, 1}, {[]int{0, 0, 1}, 1}, {[]int{0, 1, 1}, 1}, {[]int{1, 0, 1}, 2}, {[]int{1, 1, 0}, 3}, {[]int{0, 1, 2}, 1},
		{[]int{1, 2, 0}, 3}, {[]int{0, 40, 41}, 1}, {[]int{50, 0, 0}, 2}, {[]int{0, 50, 0}, 1},
		// out of Range, or not sensed
		{[]int{21, 40, 40}, -1}, {[]int{40, 21, 30}, -1}, {[]int{50, 60, 70}, -1}, {[]int{50, 20, 70}, 2}, {[]int{50, 21, 70}, -1}, {[]int{10, 60, 70}, 1},
		{[]int{10, 20, 20, 20, 20}, 1}, {[]int{20, 20, 20, 20, 10}, 5}, {[]int{20, 20, 19, 20, 10}, -1}, {[]int{20, 20, 50, 20, 10}, 5},
	} {
		p, q := onLine(20, 40, 500), onLine(20, 40, 500)
		for i, d := range c.distances {
			p.Positions = append(p.Positions, 500+d)
			q.Positions = append(q.Positions, 500+[]int{d, -d}[i%2])
		}
		senders := upTo(len(p.Positions))[1:]
		if len(senders) > 3 {
			expectReceivedFrom(t, p, senders, 0, c.want)
			expectReceivedFrom(t, q, senders, 0, c.want)
			continue
		}
		expectInEveryOrder(t, p, senders, 0, c.want)
		expectInEveryOrder(t, q, senders, 0, c.want)
	}
}

// A station that sends receives nothing, also from a station at its own position.
func TestReceivedFromWhileSending(t *testing.T) {
	p := onLine(20, 40, 0, 10, 30, 80, 10)
	expectReceivedFrom(t, p, []int{0, 2}, 1, 0)
	expectReceivedFrom(t, p, []int{4}, 1, 4)
	for _, senders := range [][]int{{1}, {1, 0}, {0, 1}, {1, 0, 2}, {0, 1, 2}, {0, 2, 1}, {1, 4}, {4, 1}, {1, 1}, {1, 0, 1}, {0, 0, 1}, {-1, 1}, {1, -1}, {5, 0, 1}} {
		expectReceivedFrom(t, p, senders, 1, -1)
	}
}

func TestReceivedFromOfNoStations(t *testing.T) {
	for _, positions := range [][]int{nil, {}, {0}, {0, 0, 0}, {0, 10, 30, 80}, farPlaces, make([]int, 17)} {
		for _, limit := range []int{20, -1, 0, math.MinInt, math.MaxInt} {
			p := onLine(limit, limit, positions...)
			for _, v := range noStations(len(positions)) {
				expectReceivedFrom(t, p, nil, v, -1)
				expectReceivedFrom(t, p, []int{0}, v, -1)
				expectReceivedFrom(t, p, []int{1}, v, -1)
				expectReceivedFrom(t, p, []int{v}, v, -1)
				expectReceivedFrom(t, p, []int{v}, 0, -1)
				expectReceivedFrom(t, p, []int{v, v}, 1, -1)
				expectReceivedFrom(t, p, noStations(len(positions)), 0, -1)
				expectReceivedFrom(t, p, noStations(len(positions)), v, -1)
			}
		}
	}
	p := onLine(20, 40, 0, 10, 30, 80)
	for _, v := range noStations(4) {
		for _, senders := range [][]int{{v, 0, 2}, {0, v, 2}, {0, 2, v}, {2, v, v, 0}, append(noStations(4), 0, 2)} {
			expectReceivedFrom(t, p, senders, 1, 0)
		}
	}
	expectReceivedFrom(t, impl.Placement{}, []int{0}, 0, -1)
	expectReceivedFrom(t, onLine(20, 40, make([]int, 17)...), []int{16}, 0, 16)
	expectReceivedFrom(t, onLine(20, 40, make([]int, 17)...), []int{15, 14}, 16, 14)
}

func TestReceivedFromOfInvalidPlacements(t *testing.T) {
	for _, c := range []struct {
		p    impl.Placement
		want int
	}{
		// Range greater than Sense: what is not sensed is not received, and does not disturb.
		{onLine(40, 20, 100, 120), 1}, {onLine(40, 20, 100, 121), -1}, {onLine(40, 20, 100, 140), -1}, {onLine(40, 20, 100, 115, 121), 1}, {onLine(40, 20, 100, 115, 120), -1},
		{onLine(40, 20, 100, 121, 115), 2}, {onLine(40, 20, 100, 110, 120), 1}, {onLine(math.MaxInt, 0, 5, 6, 5), 2}, {onLine(math.MaxInt, 0, 5, 6, 4), -1},
		// a negative Sense or Range, and one of 0
		{onLine(20, -1, 5, 5), -1}, {onLine(20, -1, 5, 5, 6), -1}, {onLine(-1, 20, 5, 5), -1}, {onLine(-1, -1, 5, 5), -1}, {onLine(20, math.MinInt, 5, 5), -1},
		{onLine(0, 0, 5, 5), 1}, {onLine(0, 0, 5, 6), -1}, {onLine(0, 20, 5, 5, 6), 1}, {onLine(0, 20, 5, 6, 5), 2}, {onLine(0, 0, 5, 5, 5), 1},
		// positions out of range
		{onLine(20, 40, -5, -15, 15), 1}, {onLine(20, 40, -5, -15, 14), -1}, {onLine(2000, 4000, 1500, 2500, -500), 1}, {onLine(2000, 4000, 1500, 2500, -499), -1},
		{onLine(math.MaxInt, math.MaxInt, 0, half-1, math.MaxInt), 1}, {onLine(math.MaxInt, math.MaxInt, 0, half-1, math.MaxInt-2), -1},
		// The product of the ratio wraps around, so that nothing but a sender at the same distance disturbs.
		{onLine(math.MaxInt, math.MaxInt, 0, half, math.MaxInt), 1}, {onLine(math.MaxInt, math.MaxInt, 0, half, half+1), 1}, {onLine(math.MaxInt, math.MaxInt, 0, half, half), -1},
		{onLine(math.MaxInt, math.MaxInt, 0, half, -half), -1}, {onLine(math.MaxInt, math.MaxInt, 0, math.MaxInt, math.MaxInt-1), 2}, {onLine(math.MaxInt, math.MaxInt, 0, math.MaxInt, math.MaxInt), -1},
		{onLine(half, math.MaxInt, 0, half+1, half), 2}, {onLine(half-1, math.MaxInt, 0, half+1, half), -1},
		// Differences wrap around, so that the nearest sender has the least, negative distance.
		{onLine(20, 40, math.MinInt, math.MaxInt), 1}, {onLine(-1, -1, math.MinInt, math.MaxInt), 1}, {onLine(-2, -1, math.MinInt, math.MaxInt), -1}, {onLine(-1, -2, math.MinInt, math.MaxInt), -1},
		{onLine(20, 40, math.MinInt, math.MaxInt, math.MinInt), 1}, {onLine(20, 40, math.MinInt, math.MaxInt, math.MinInt+5), 1}, {onLine(20, 40, math.MinInt, math.MaxInt, math.MaxInt), -1},
		{onLine(20, 40, math.MinInt, math.MaxInt, math.MaxInt-1), 2}, {onLine(20, 40, math.MinInt, math.MaxInt-1, math.MaxInt), 1}, {onLine(20, 40, math.MinInt, math.MinInt, math.MaxInt), 2},
		{onLine(20, 40, math.MaxInt, math.MinInt, math.MinInt), -1}, {onLine(20, 40, math.MaxInt, math.MinInt, math.MinInt+1), 2},
		// Twice the least int is 0, and twice a little more than it little more than 0.
		{onLine(20, 40, math.MinInt, 0, math.MaxInt), -1}, {onLine(20, 40, math.MinInt, 0, math.MinInt), 1}, {onLine(20, 40, math.MinInt, 0, math.MinInt+1), 1}, {onLine(20, 40, math.MinInt, 0, 0), -1},
		{onLine(20, 40, math.MinInt, 1, math.MinInt+1), -1}, {onLine(20, 40, math.MinInt, 1, math.MinInt+2), 1}, {onLine(20, 40, math.MinInt, 1, math.MinInt+3), 1},
		{onLine(20, 40, math.MinInt, half, -2), 1}, {onLine(20, math.MaxInt, math.MinInt, half, -2), 1}, {onLine(20, 40, math.MinInt, half-1, -2), 1}, {onLine(20, math.MaxInt, math.MinInt, half-1, -3), -1},
	} {
		expectInEveryOrder(t, c.p, upTo(len(c.p.Positions))[1:], 0, c.want)
	}
}

// All placements of up to three stations with all lists of up to three senders, also such that do not exist.
func TestReceivedFromAgainstReference(t *testing.T) {
	senders := shortLists([]int{-1, 0, 1, 2, 3}, 3)
	placements(shortLists(upTo(5), 3), []int{-1, 0, 1, 2, 3, 4}, func(p impl.Placement) {
		for _, list := range senders {
			for receiver := -1; receiver <= len(p.Positions); receiver++ {
				expectReceivedFrom(t, p, list, receiver, receivedReference(p, list, receiver))
			}
		}
	})
}

// With four stations, all three senders may be others than the receiver.
func TestReceivedFromOfFourAgainstReference(t *testing.T) {
	senders := shortLists(upTo(4), 3)
	check := func(p impl.Placement) {
		for _, list := range senders {
			for receiver := range 4 {
				expectReceivedFrom(t, p, list, receiver, receivedReference(p, list, receiver))
			}
		}
	}
	placements(fourPlaces(upTo(5)), []int{0, 1, 2, 4}, check)
	placements(fourPlaces([]int{0, 3, 6, 12}), []int{3, 6, 12}, check)
}

func TestReceivedFromFarAgainstReference(t *testing.T) {
	senders := shortLists(upTo(3), 3)
	placements(shortLists(farPlaces, 3), farLimits, func(p impl.Placement) {
		for _, list := range senders {
			for receiver := range p.Positions {
				expectReceivedFrom(t, p, list, receiver, receivedReference(p, list, receiver))
			}
		}
	})
}

// Promise 13: at most the nearest sender is received, whatever else is sent in which order.
func TestAtMostTheNearestIsReceived(t *testing.T) {
	random := rand.New(rand.NewPCG(13, 2))
	for range 20000 {
		p := randomPlacement(random)
		senders := randomSenders(random, len(p.Positions))
		for receiver := -1; receiver <= len(p.Positions); receiver++ {
			got := impl.ReceivedFrom(p, senders, receiver)
			expectReceivedFrom(t, p, senders, receiver, receivedReference(p, senders, receiver))
			if got == -1 {
				continue
			}
			if !slices.Contains(senders, got) || !impl.CanReceive(p, receiver, got) {
				t.Fatalf("ReceivedFrom(%v, %v, %d) is %d, which is not heard", p, senders, receiver, got)
			}
			for _, s := range senders {
				if d := impl.Distance(p, s, receiver); d >= 0 && d < impl.Distance(p, got, receiver) {
					t.Fatalf("ReceivedFrom(%v, %v, %d) is %d, although %d is nearer", p, senders, receiver, got, s)
				}
			}
			// Without the other senders, the one that was received still is.
			expectReceivedFrom(t, p, []int{got}, receiver, got)
			shuffled := slices.Repeat(senders, 2)
			random.Shuffle(len(shuffled), func(i int, j int) { shuffled[i], shuffled[j] = shuffled[j], shuffled[i] })
			expectReceivedFrom(t, p, shuffled, receiver, got)
		}
	}
}

// A placement of many stations is not valid, but its stations hear each other.
func TestReceivedFromOfMany(t *testing.T) {
	const count, receiver = 60000, 30000
	p := onLine(20, 40, upTo(count)...)
	others := slices.DeleteFunc(upTo(count), func(s int) bool { return s == receiver })
	expectReceivedFrom(t, p, others, receiver, -1)
	slices.Reverse(others)
	one := slices.DeleteFunc(others, func(s int) bool { return s == receiver-1 })
	expectReceivedFrom(t, p, one, receiver, receiver+1)
	expectReceivedFrom(t, p, slices.Repeat(one, 3), receiver, receiver+1)
	expectReceivedFrom(t, p, upTo(count), receiver, -1)
}

func TestFunctionsOfPlacementsKeepTheirArguments(t *testing.T) {
	for _, positions := range [][]int{{}, {7}, {30, 10, 0, 80}, {5, 5, 5, 5}, badPositions, {math.MaxInt, math.MinInt, 0, -1}, {40, 60, 30, 70}} {
		for _, senders := range [][]int{{}, {2}, {3, 2, 0}, {3, 3, 0, 3, -1, 9}, {1, 0}, {math.MaxInt, 2, math.MinInt, 0}} {
			p, list := onLine(20, 40, intsWithSpare(positions...)...), intsWithSpare(senders...)
			impl.IsValidPlacement(p)
			for _, a := range append([]int{-1, 4}, senders...) {
				neighbors := impl.NeighborsOf(p, a)
				spoilInts(append(neighbors, 1))
				spoilInts(neighbors)
				for b := -1; b <= 4; b++ {
					impl.Distance(p, a, b)
					impl.CanReceive(p, a, b)
					impl.CanSense(p, a, b)
					impl.IsHidden(p, a, b, 1)
					impl.IsExposed(p, a, b, 2, 3)
				}
				impl.ReceivedFrom(p, list, a)
			}
			impl.ReceivedFrom(p, list, 1)
			checkIntsSpare(t, "a function of placements", p.Positions, positions...)
			checkIntsSpare(t, "a function of placements", list, senders...)
		}
	}
}

func TestResultsOfNeighborsOfShareNoMemory(t *testing.T) {
	p := onLine(20, 40, 0, 10, 30, 80)
	for a, want := range [][]int{{1}, {0, 2}, {1}, {}, {}} {
		one, two := impl.NeighborsOf(p, a), impl.NeighborsOf(p, a)
		spoilInts(append(one, 1))
		spoilInts(one)
		if !slices.Equal(two, want) {
			t.Errorf("two results of NeighborsOf(%v, %d) share memory: %v", p, a, two)
		}
		expectNeighbors(t, p, a, want...)
	}
}
