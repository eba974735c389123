package tests

import (
	"math"
	"math/rand/v2"
	"slices"
	"testing"

	"loop.example/g00511/impl"
)

// The lists are out of the ranges of their fields; the lowest bits of some of the numbers are those of a number in range.
var (
	notListens = []int{0, 9, -1, -2, -7, -8, 10, 15, 16, 17, 255, 256, 257, 264, 1 << 32, 1<<32 + 1, 1<<32 + 8, -1<<32 + 3, math.MinInt, math.MinInt + 1, math.MinInt + 8, math.MaxInt - 7, math.MaxInt - 1, math.MaxInt}
	// farPassed are numbers of beacons that are in range with no Listen.
	farPassed = []int{-1, 8, -2, -7, -8, 9, 15, 16, 255, 256, 257, 1 << 32, 1<<32 + 1, -1<<32 + 1, math.MinInt, math.MinInt + 1, math.MinInt + 7, math.MaxInt - 1, math.MaxInt}
	notPolls  = []int{-1, 2, -2, 3, 4, 5, 16, 17, 255, 256, 257, 1 << 32, 1<<32 + 1, -1<<32 + 1, math.MinInt, math.MinInt + 1, math.MaxInt - 1, math.MaxInt}
)

func asleep(listen int, beacons int) impl.SleepState {
	return impl.SleepState{Listen: listen, Beacons: beacons}
}

func awake(listen int, beacons int, polls int, group bool) impl.SleepState {
	return impl.SleepState{Listen: listen, Awake: true, Beacons: beacons, Polls: polls, WaitGroup: group}
}

// awakeStates are the four kinds of awake states: with and without a frame and group traffic to wait for.
func awakeStates(listen int, beacons int) []impl.SleepState {
	return []impl.SleepState{awake(listen, beacons, 0, false), awake(listen, beacons, 0, true), awake(listen, beacons, 1, false), awake(listen, beacons, 1, true)}
}

// sleepStates are all valid states.
func sleepStates() []impl.SleepState {
	list := []impl.SleepState{}
	for listen := 1; listen <= 8; listen++ {
		for beacons := range listen {
			list = append(list, asleep(listen, beacons))
			list = append(list, awakeStates(listen, beacons)...)
		}
	}
	return list
}

// validSleepReference looks the state up among all valid ones.
func validSleepReference() func(s impl.SleepState) bool {
	valid := map[impl.SleepState]bool{}
	for _, s := range sleepStates() {
		valid[s] = true
	}
	return func(s impl.SleepState) bool { return valid[s] }
}

// spoiltSleepStates returns states that are invalid in one field alone, the other fields being those of s, which is valid.
func spoiltSleepStates(s impl.SleepState) []impl.SleepState {
	list := []impl.SleepState{}
	add := func(field *int, wrong ...int) {
		right := *field
		for _, n := range wrong {
			*field = n
			list = append(list, s)
		}
		*field = right
	}
	add(&s.Listen, notListens...)
	for listen := 1; listen <= s.Beacons; listen++ {
		add(&s.Listen, listen)
	}
	add(&s.Beacons, s.Listen, s.Listen+1, 2*s.Listen, -s.Listen)
	add(&s.Beacons, farPassed...)
	add(&s.Polls, notPolls...)
	if !s.Awake {
		add(&s.Polls, 1)
		s.WaitGroup = true
		return append(list, s)
	}
	if s.Polls == 1 || s.WaitGroup {
		s.Awake = false
		list = append(list, s)
	}
	return list
}

// invalidSleepStates returns the zero state, those that are invalid in one field alone, and some with several such fields.
func invalidSleepStates() []impl.SleepState {
	list := []impl.SleepState{{}, {Awake: true}, {Polls: 1}, {WaitGroup: true}, {Awake: true, Polls: 1, WaitGroup: true}, {Listen: 2, Polls: 1, WaitGroup: true}}
	for _, n := range []int{math.MinInt, math.MinInt + 1, -8, -1, 9, 256, math.MaxInt - 1, math.MaxInt} {
		for _, s := range []impl.SleepState{{Listen: n, Beacons: n, Polls: n}, {Listen: n, Beacons: n}, {Listen: n, Beacons: n - 1}, {Listen: n, Beacons: 0}, {Listen: 3, Beacons: n, Polls: n}} {
			list = append(list, s)
			s.Awake = true
			list = append(list, s)
			s.WaitGroup = true
			list = append(list, s)
		}
	}
	for _, s := range sleepStates() {
		list = append(list, spoiltSleepStates(s)...)
	}
	return list
}

// fewInvalidSleepStates are of every kind, for products with other lists.
func fewInvalidSleepStates() []impl.SleepState {
	list := []impl.SleepState{{}, {Awake: true}, {Listen: 9, Awake: true, Beacons: 9, Polls: 2}}
	for _, s := range []impl.SleepState{asleep(1, 0), asleep(8, 3), awake(4, 3, 0, false), awake(8, 7, 1, false), awake(1, 0, 0, true), awake(3, 1, 1, true)} {
		list = append(list, spoiltSleepStates(s)...)
	}
	return list
}

// heardOutcome is what the station waits for after a beacon, and whether it polls.
type heardOutcome struct {
	polls int
	group bool
	awake bool
	poll  bool
}

// heardOutcomes has a row for each Polls, for the bit of the station and for the group traffic of the beacon.
var heardOutcomes = map[[3]int]heardOutcome{
	{0, 0, 0}: {0, false, false, false},
	{0, 0, 1}: {0, true, true, false},
	{0, 1, 0}: {1, false, true, true},
	{0, 1, 1}: {1, true, true, true},
	{1, 0, 0}: {1, false, true, false},
	{1, 0, 1}: {1, true, true, false},
	{1, 1, 0}: {1, false, true, false},
	{1, 1, 1}: {1, true, true, false},
}

// heardBeaconReference takes the row of a valid state and a valid beacon.
func heardBeaconReference(s impl.SleepState, b impl.Beacon, self int) (impl.SleepState, bool) {
	if !s.Awake {
		return s, false
	}
	row := [3]int{s.Polls, 0, 0}
	if containsReference(b.Tim, self) {
		row[1] = 1
	}
	if b.GroupTraffic {
		row[2] = 1
	}
	outcome := heardOutcomes[row]
	return impl.SleepState{Listen: s.Listen, Awake: outcome.awake, Beacons: s.Beacons, Polls: outcome.polls, WaitGroup: outcome.group}, outcome.poll
}

// someBeacons have the bit of one station, of all others, of all and of none, with and without group traffic.
func someBeacons(station int) []impl.Beacon {
	list := []impl.Beacon{}
	for _, tim := range []int{0, 65535, 1 << station, 65535 - 1<<station} {
		list = append(list, beacon(0, 30, 0, 1, tim), withGroupTraffic(beacon(0, 30, 0, 1, tim)), withGroupTraffic(beacon(15, lastBeacon, 0, 8, tim)), beacon(3, 70, 7, 8, tim))
	}
	return list
}

func expectValidSleep(t *testing.T, s impl.SleepState, want bool) {
	t.Helper()
	if got := impl.IsValidSleepState(s); got != want {
		t.Errorf("IsValidSleepState(%+v) is %v", s, got)
	}
}

func expectBefore(t *testing.T, s impl.SleepState, want impl.SleepState) {
	t.Helper()
	if got := impl.BeforeBeacon(s); got != want {
		t.Errorf("BeforeBeacon(%+v) is %+v, not %+v", s, got, want)
	}
}

func expectHeardBeacon(t *testing.T, s impl.SleepState, b impl.Beacon, self int, want impl.SleepState, wantPoll bool) {
	t.Helper()
	if got, poll := impl.HearBeacon(s, b, self); got != want || poll != wantPoll {
		t.Errorf("HearBeacon(%+v, %+v, %d) is %+v, %v, not %+v, %v", s, b, self, got, poll, want, wantPoll)
	}
}

func expectHeardBeaconLikeReference(t *testing.T, s impl.SleepState, b impl.Beacon, self int) {
	t.Helper()
	want, poll := heardBeaconReference(s, b, self)
	expectHeardBeacon(t, s, b, self, want, poll)
}

func expectTraffic(t *testing.T, s impl.SleepState, more bool, want impl.SleepState, wantPoll bool) {
	t.Helper()
	if got, poll := impl.HearTraffic(s, more); got != want || poll != wantPoll {
		t.Errorf("HearTraffic(%+v, %v) is %+v, %v, not %+v, %v", s, more, got, poll, want, wantPoll)
	}
}

func expectGroupDone(t *testing.T, s impl.SleepState, want impl.SleepState) {
	t.Helper()
	if got := impl.GroupDone(s); got != want {
		t.Errorf("GroupDone(%+v) is %+v, not %+v", s, got, want)
	}
}

func expectMissed(t *testing.T, s impl.SleepState, want impl.SleepState) {
	t.Helper()
	if got := impl.MissedBeacon(s); got != want {
		t.Errorf("MissedBeacon(%+v) is %+v, not %+v", s, got, want)
	}
}

func expectWakesBy(t *testing.T, s impl.SleepState, want int) {
	t.Helper()
	if got := impl.WakesBy(s); got != want {
		t.Errorf("WakesBy(%+v) is %d, not %d", s, got, want)
	}
}

func TestConstantsOfSleep(t *testing.T) {
	if impl.MaxListen != 8 {
		t.Error(impl.MaxListen)
	}
}

func TestNewSleepState(t *testing.T) {
	for _, c := range []struct{ listen, want int }{
		{-1, 1}, {0, 1}, {1, 1}, {2, 2}, {3, 3}, {4, 4}, {5, 5}, {6, 6}, {7, 7}, {8, 8}, {9, 1}, {10, 1}, {math.MinInt, 1}, {math.MaxInt, 1},
	} {
		if got := impl.NewSleepState(c.listen); got != (impl.SleepState{Listen: c.want}) {
			t.Errorf("NewSleepState(%d) is %+v", c.listen, got)
		}
	}
	for _, listen := range notListens {
		if got := impl.NewSleepState(listen); got != asleep(1, 0) {
			t.Errorf("NewSleepState(%d) is %+v", listen, got)
		}
	}
	for listen := -300; listen <= 300; listen++ {
		s := impl.NewSleepState(listen)
		expectValidSleep(t, s, true)
		if inRange := 1 <= listen && listen <= 8; inRange && s.Listen != listen || !inRange && s.Listen != 1 {
			t.Errorf("NewSleepState(%d) is %+v", listen, s)
		}
	}
}

func TestIsValidSleepState(t *testing.T) {
	expectValidSleep(t, impl.SleepState{}, false)
	for _, c := range []struct {
		listen, beacons int
		want            bool
	}{
		{1, 0, true}, {8, 0, true}, {8, 7, true}, {4, 2, true}, {4, 3, true},
		{0, 0, false}, {9, 0, false}, {-1, 0, false}, {0, -1, false}, {9, 8, false}, {-1, -2, false}, {-8, -4, false}, {math.MinInt, 0, false}, {math.MaxInt, 0, false},
		{math.MinInt, math.MaxInt, false}, {math.MinInt, math.MinInt, false}, {math.MinInt, 5, false}, {math.MaxInt, math.MaxInt - 1, false}, {math.MaxInt, math.MaxInt, false},
		{4, -1, false}, {4, 0, true}, {4, 4, false}, {4, 5, false}, {4, math.MinInt, false}, {4, math.MaxInt, false},
		{1, 1, false}, {1, -1, false}, {8, 8, false}, {8, -1, false},
	} {
		expectValidSleep(t, asleep(c.listen, c.beacons), c.want)
		for _, s := range awakeStates(c.listen, c.beacons) {
			expectValidSleep(t, s, c.want)
		}
	}
	for listen := 1; listen <= 8; listen++ {
		expectValidSleep(t, asleep(listen, listen-1), true)
		expectValidSleep(t, asleep(listen, listen), false)
		expectValidSleep(t, awake(listen, listen-1, 0, false), true)
		expectValidSleep(t, awake(listen, listen, 0, false), false)
	}
}

// A station that waits for traffic is awake, and one that is awake may wait for none.
func TestIsValidSleepStateOfWaiting(t *testing.T) {
	for _, c := range []struct {
		awake bool
		polls int
		group bool
		want  bool
	}{
		{false, 0, false, true}, {true, 0, false, true}, {false, 0, true, false}, {true, 0, true, true},
		{false, 1, false, false}, {true, 1, false, true}, {false, 1, true, false}, {true, 1, true, true},
		{false, -1, false, false}, {true, -1, false, false}, {false, -1, true, false}, {true, -1, true, false},
		{false, 2, false, false}, {true, 2, false, false}, {false, 2, true, false}, {true, 2, true, false},
		{false, math.MinInt, false, false}, {true, math.MinInt, false, false}, {false, math.MaxInt, false, false}, {true, math.MaxInt, true, false},
	} {
		for listen := 1; listen <= 8; listen++ {
			for beacons := range listen {
				expectValidSleep(t, impl.SleepState{Listen: listen, Awake: c.awake, Beacons: beacons, Polls: c.polls, WaitGroup: c.group}, c.want)
			}
		}
	}
}

// Each value of every field with each value of every other one.
func TestIsValidSleepStateOfFields(t *testing.T) {
	isValid, count := validSleepReference(), 0
	for _, listen := range slices.Concat(upTo(9)[1:], notListens) {
		for _, beacons := range slices.Concat(upTo(8), farPassed) {
			for _, polls := range slices.Concat(upTo(2), notPolls) {
				for flags := range 4 {
					s := impl.SleepState{Listen: listen, Awake: flags%2 == 1, Beacons: beacons, Polls: polls, WaitGroup: flags/2 == 1}
					expectValidSleep(t, s, isValid(s))
					if isValid(s) {
						count++
					}
				}
			}
		}
	}
	if count != 180 {
		t.Errorf("%d states are valid, not 36 times 5", count)
	}
}

func TestInvalidSleepStates(t *testing.T) {
	isValid := validSleepReference()
	for _, s := range invalidSleepStates() {
		if isValid(s) {
			t.Fatalf("%+v is valid", s)
		}
		expectValidSleep(t, s, false)
	}
}

func TestBeforeBeacon(t *testing.T) {
	expectBefore(t, asleep(2, 0), asleep(2, 1))
	expectBefore(t, asleep(2, 1), awake(2, 0, 0, false))
	expectBefore(t, asleep(1, 0), awake(1, 0, 0, false))
	expectBefore(t, asleep(8, 0), asleep(8, 1))
	expectBefore(t, asleep(8, 6), asleep(8, 7))
	expectBefore(t, asleep(8, 7), awake(8, 0, 0, false))
	// An awake station counts the beacons too, and is still awake.
	expectBefore(t, awake(1, 0, 0, false), awake(1, 0, 0, false))
	expectBefore(t, awake(3, 0, 0, false), awake(3, 1, 0, false))
	expectBefore(t, awake(3, 1, 1, false), awake(3, 2, 1, false))
	expectBefore(t, awake(3, 2, 1, false), awake(3, 0, 1, false))
	expectBefore(t, awake(3, 0, 0, true), awake(3, 1, 0, true))
	expectBefore(t, awake(3, 2, 0, true), awake(3, 0, 0, true))
	expectBefore(t, awake(8, 7, 1, true), awake(8, 0, 1, true))
	expectBefore(t, awake(8, 6, 1, true), awake(8, 7, 1, true))
}

func TestBeforeBeaconOfStates(t *testing.T) {
	for listen := 1; listen <= 8; listen++ {
		for beacons := range listen {
			if beacons+1 < listen {
				expectBefore(t, asleep(listen, beacons), asleep(listen, beacons+1))
			} else {
				expectBefore(t, asleep(listen, beacons), awake(listen, 0, 0, false))
			}
			// The numbers of beacons are in a circle.
			after := awakeStates(listen, (beacons+1)%listen)
			for i, s := range awakeStates(listen, beacons) {
				expectBefore(t, s, after[i])
			}
		}
	}
}

func TestBeforeBeaconOfInvalidStates(t *testing.T) {
	for _, s := range invalidSleepStates() {
		expectBefore(t, s, s)
	}
	for _, s := range []impl.SleepState{{}, asleep(0, -1), asleep(9, 8), awake(9, 8, 0, false), asleep(4, 4), asleep(4, -1), asleep(math.MaxInt, math.MaxInt-1), asleep(math.MinInt, math.MaxInt), awake(4, 3, 2, false), {Listen: 4, Beacons: 3, Polls: 1}, {Listen: 4, Beacons: 3, WaitGroup: true}} {
		expectBefore(t, s, s)
	}
}

func TestHearBeacon(t *testing.T) {
	none, own := beacon(1, 30, 0, 3, 0xfffb), beacon(1, 30, 0, 3, 4)
	group, both := withGroupTraffic(none), withGroupTraffic(own)
	for _, c := range []struct {
		s    impl.SleepState
		b    impl.Beacon
		want impl.SleepState
		poll bool
	}{
		{awake(4, 0, 0, false), none, asleep(4, 0), false},
		{awake(4, 0, 0, false), own, awake(4, 0, 1, false), true},
		{awake(4, 0, 0, false), group, awake(4, 0, 0, true), false},
		{awake(4, 0, 0, false), both, awake(4, 0, 1, true), true},
		// One that has polled already does not poll again, and waits for its frame.
		{awake(4, 0, 1, false), none, awake(4, 0, 1, false), false},
		{awake(4, 0, 1, false), own, awake(4, 0, 1, false), false},
		{awake(4, 0, 1, false), group, awake(4, 0, 1, true), false},
		{awake(4, 0, 1, false), both, awake(4, 0, 1, true), false},
		// Group traffic that is not announced again is not waited for any more.
		{awake(4, 3, 0, true), none, asleep(4, 3), false},
		{awake(4, 3, 0, true), own, awake(4, 3, 1, false), true},
		{awake(4, 3, 0, true), group, awake(4, 3, 0, true), false},
		{awake(4, 3, 0, true), both, awake(4, 3, 1, true), true},
		{awake(4, 2, 1, true), none, awake(4, 2, 1, false), false},
		{awake(4, 2, 1, true), own, awake(4, 2, 1, false), false},
		{awake(4, 2, 1, true), group, awake(4, 2, 1, true), false},
		{awake(4, 2, 1, true), both, awake(4, 2, 1, true), false},
		{asleep(4, 0), none, asleep(4, 0), false},
		{asleep(4, 0), own, asleep(4, 0), false},
		{asleep(4, 3), group, asleep(4, 3), false},
		{asleep(4, 3), both, asleep(4, 3), false},
	} {
		expectHeardBeacon(t, c.s, c.b, 2, c.want, c.poll)
	}
}

func TestHearBeaconOfStates(t *testing.T) {
	for _, s := range sleepStates() {
		for station := range 16 {
			for _, b := range someBeacons(station) {
				expectHeardBeaconLikeReference(t, s, b, station)
				expectHeardBeaconLikeReference(t, s, b, (station+1)%16)
			}
		}
	}
	for i, b := range limitBeacons() {
		for _, s := range awakeStates(5, i%5) {
			for station := range 16 {
				expectHeardBeaconLikeReference(t, s, b, station)
			}
		}
	}
}

// No traffic is announced for a station that does not exist; group traffic is for it as well.
func TestHearBeaconOfOtherStations(t *testing.T) {
	for _, s := range sleepStates() {
		for _, self := range notStations {
			for _, tim := range []int{0, 1, 32768, 65535} {
				b := beacon(1, 20, 0, 2, tim)
				expectHeardBeaconLikeReference(t, s, b, self)
				expectHeardBeaconLikeReference(t, s, withGroupTraffic(b), self)
			}
		}
	}
	all := beacon(1, 20, 0, 2, 65535)
	for _, self := range []int{-1, 16, math.MinInt, math.MaxInt} {
		expectHeardBeacon(t, awake(2, 0, 0, false), all, self, asleep(2, 0), false)
		expectHeardBeacon(t, awake(2, 0, 0, true), all, self, asleep(2, 0), false)
		expectHeardBeacon(t, awake(2, 0, 0, false), withGroupTraffic(all), self, awake(2, 0, 0, true), false)
		expectHeardBeacon(t, awake(2, 0, 1, true), all, self, awake(2, 0, 1, false), false)
	}
	for _, self := range []int{0, 15} {
		expectHeardBeacon(t, awake(2, 0, 0, false), all, self, awake(2, 0, 1, false), true)
	}
}

func TestHearBeaconOfInvalidStates(t *testing.T) {
	for _, s := range invalidSleepStates() {
		expectHeardBeacon(t, s, beacon(1, 20, 0, 2, 65535), 3, s, false)
		expectHeardBeacon(t, s, beacon(1, 20, 0, 2, 0), 3, s, false)
		expectHeardBeacon(t, s, withGroupTraffic(beacon(1, 20, 0, 2, 0)), 3, s, false)
	}
	for _, s := range fewInvalidSleepStates() {
		for _, self := range slices.Concat(stations, notStations) {
			expectHeardBeacon(t, s, withGroupTraffic(beacon(1, 20, 0, 2, 65535)), self, s, false)
		}
	}
}

func TestHearBeaconOfInvalidBeacons(t *testing.T) {
	for _, b := range invalidBeacons() {
		for _, s := range slices.Concat(awakeStates(1, 0), awakeStates(8, 7), []impl.SleepState{asleep(1, 0), asleep(8, 2)}) {
			for _, self := range []int{0, 4, 15, -1, 16} {
				expectHeardBeacon(t, s, b, self, s, false)
			}
		}
	}
	for i, s := range fewInvalidSleepStates() {
		for j, b := range invalidBeacons() {
			if (i+j)%8 == 0 {
				expectHeardBeacon(t, s, b, 4, s, false)
			}
		}
	}
}

func TestHearTraffic(t *testing.T) {
	for listen := 1; listen <= 8; listen++ {
		for beacons := range listen {
			expectTraffic(t, awake(listen, beacons, 1, false), true, awake(listen, beacons, 1, false), true)
			expectTraffic(t, awake(listen, beacons, 1, true), true, awake(listen, beacons, 1, true), true)
			expectTraffic(t, awake(listen, beacons, 1, false), false, asleep(listen, beacons), false)
			expectTraffic(t, awake(listen, beacons, 1, true), false, awake(listen, beacons, 0, true), false)
			// A frame that was not asked for changes nothing.
			for _, s := range []impl.SleepState{asleep(listen, beacons), awake(listen, beacons, 0, false), awake(listen, beacons, 0, true)} {
				expectTraffic(t, s, true, s, false)
				expectTraffic(t, s, false, s, false)
			}
		}
	}
}

func TestHearTrafficOfInvalidStates(t *testing.T) {
	for _, s := range invalidSleepStates() {
		expectTraffic(t, s, true, s, false)
		expectTraffic(t, s, false, s, false)
	}
	for _, s := range []impl.SleepState{{}, {Polls: 1}, {Listen: 1, Polls: 1}, {Listen: 1, Polls: 1, WaitGroup: true}, awake(0, 0, 1, false), awake(9, 0, 1, false), awake(2, 2, 1, true), awake(2, -1, 1, true), awake(2, 0, 2, false), awake(2, 0, -1, true)} {
		expectTraffic(t, s, true, s, false)
		expectTraffic(t, s, false, s, false)
	}
}

func TestGroupDone(t *testing.T) {
	for listen := 1; listen <= 8; listen++ {
		for beacons := range listen {
			expectGroupDone(t, awake(listen, beacons, 0, true), asleep(listen, beacons))
			expectGroupDone(t, awake(listen, beacons, 1, true), awake(listen, beacons, 1, false))
			for _, s := range []impl.SleepState{asleep(listen, beacons), awake(listen, beacons, 0, false), awake(listen, beacons, 1, false)} {
				expectGroupDone(t, s, s)
			}
		}
	}
}

func TestGroupDoneOfInvalidStates(t *testing.T) {
	for _, s := range invalidSleepStates() {
		expectGroupDone(t, s, s)
	}
	for _, s := range []impl.SleepState{{}, {WaitGroup: true}, {Listen: 1, WaitGroup: true}, {Listen: 1, Polls: 1, WaitGroup: true}, awake(0, 0, 0, true), awake(9, 0, 0, true), awake(2, 2, 0, true), awake(2, -1, 1, true), awake(2, 0, 2, true), awake(2, 0, -1, true)} {
		expectGroupDone(t, s, s)
	}
}

func TestMissedBeacon(t *testing.T) {
	expectMissed(t, awake(4, 0, 0, false), asleep(4, 3))
	expectMissed(t, awake(1, 0, 0, false), asleep(1, 0))
	expectMissed(t, awake(4, 0, 1, false), awake(4, 3, 1, false))
	expectMissed(t, awake(4, 0, 0, true), awake(4, 3, 0, true))
	for listen := 1; listen <= 8; listen++ {
		for beacons := range listen {
			expectMissed(t, asleep(listen, beacons), asleep(listen, beacons))
			expectMissed(t, awake(listen, beacons, 0, false), asleep(listen, listen-1))
			expectMissed(t, awake(listen, beacons, 1, false), awake(listen, listen-1, 1, false))
			expectMissed(t, awake(listen, beacons, 0, true), awake(listen, listen-1, 0, true))
			expectMissed(t, awake(listen, beacons, 1, true), awake(listen, listen-1, 1, true))
		}
	}
}

func TestMissedBeaconOfInvalidStates(t *testing.T) {
	for _, s := range invalidSleepStates() {
		expectMissed(t, s, s)
	}
	for _, s := range []impl.SleepState{{}, {Awake: true}, {Listen: 4, Polls: 1}, {Listen: 4, WaitGroup: true}, awake(0, 0, 0, false), awake(9, 0, 0, false), awake(4, 4, 0, false), awake(4, -1, 1, false), awake(4, 0, 2, false), awake(math.MinInt, 0, 0, false), awake(math.MaxInt, 0, 0, false)} {
		expectMissed(t, s, s)
	}
}

func TestWakesBy(t *testing.T) {
	for _, c := range []struct{ listen, beacons, want int }{
		{1, 0, 1}, {2, 0, 2}, {2, 1, 1}, {3, 0, 3}, {3, 1, 2}, {3, 2, 1}, {8, 0, 8}, {8, 1, 7}, {8, 4, 4}, {8, 6, 2}, {8, 7, 1},
	} {
		expectWakesBy(t, asleep(c.listen, c.beacons), c.want)
	}
	for listen := 1; listen <= 8; listen++ {
		for beacons := range listen {
			expectWakesBy(t, asleep(listen, beacons), listen-beacons)
			for _, s := range awakeStates(listen, beacons) {
				expectWakesBy(t, s, 0)
			}
		}
	}
}

func TestWakesByOfInvalidStates(t *testing.T) {
	for _, s := range invalidSleepStates() {
		expectWakesBy(t, s, -1)
	}
	for _, s := range []impl.SleepState{{}, {Awake: true}, asleep(9, 0), asleep(4, 4), asleep(4, 5), asleep(4, -1), awake(9, 0, 0, false), awake(4, 4, 0, false), {Listen: 4, Polls: 1}, {Listen: 4, WaitGroup: true}, asleep(math.MaxInt, 0), asleep(math.MinInt, 0), awake(math.MinInt, math.MinInt, math.MinInt, true)} {
		expectWakesBy(t, s, -1)
	}
}

// A sleeping station is awake after exactly as many beacons as stated, and not earlier.
func TestSleepingStationWakesAsStated(t *testing.T) {
	for listen := 1; listen <= 8; listen++ {
		for beacons := range listen {
			s := asleep(listen, beacons)
			for left := impl.WakesBy(s); left > 0; left-- {
				if s.Awake || impl.WakesBy(s) != left {
					t.Errorf("%d beacons before it wakes, the station is %+v", left, s)
				}
				s = impl.BeforeBeacon(s)
			}
			if s != awake(listen, 0, 0, false) {
				t.Errorf("asleep with Listen %d and Beacons %d, the station becomes %+v", listen, beacons, s)
			}
		}
	}
}

// A station without traffic is awake for every beacon that it listens to, and for no other.
func TestStationListensToEachOfItsBeacons(t *testing.T) {
	for listen := 1; listen <= 8; listen++ {
		s := impl.NewSleepState(listen)
		for number := 1; number <= 100; number++ {
			s = impl.BeforeBeacon(s)
			if s.Awake != (number%listen == 0) {
				t.Errorf("at the beacon %d with Listen %d, the station is %+v", number, listen, s)
			}
			s, _ = impl.HearBeacon(s, beacon(1, 10*number, 0, 1, 0), 2)
			if s != asleep(listen, number%listen) {
				t.Errorf("after the beacon %d with Listen %d, the station is %+v", number, listen, s)
			}
		}
	}
}

// A station that missed its beacon wakes for the next one, also when it misses several in a row.
func TestMissedBeaconWakesForTheNextOne(t *testing.T) {
	for _, s := range sleepStates() {
		if !s.Awake {
			continue
		}
		for range 5 {
			missed := impl.MissedBeacon(s)
			if missed.Awake != (s.Polls == 1 || s.WaitGroup) || !missed.Awake && impl.WakesBy(missed) != 1 {
				t.Errorf("%+v becomes %+v", s, missed)
			}
			next := impl.BeforeBeacon(missed)
			if next != awake(s.Listen, 0, s.Polls, s.WaitGroup) {
				t.Errorf("%+v wakes for the next beacon as %+v", s, next)
			}
			s = next
		}
		heard, _ := impl.HearBeacon(s, beacon(1, 10, 0, 1, 0), 2)
		if s.Polls == 0 && heard != asleep(s.Listen, 0) {
			t.Errorf("after the beacon, the station is %+v", heard)
		}
	}
}

// A station that slept through none of its traffic receives a run of frames and the group traffic, in either order, and then sleeps.
func TestStationSleepsAfterItsTraffic(t *testing.T) {
	b := withGroupTraffic(beacon(1, 30, 0, 3, 1<<9))
	for frames := 1; frames <= 6; frames++ {
		for done := range frames + 1 {
			s, poll := impl.HearBeacon(impl.BeforeBeacon(asleep(3, 2)), b, 9)
			polls := 0
			for frame := range frames {
				if !poll || !s.Awake {
					t.Errorf("frame %d of %d was not asked for: %+v", frame, frames, s)
				}
				polls++
				if frame == done {
					s = impl.GroupDone(s)
				}
				s, poll = impl.HearTraffic(s, frame < frames-1)
			}
			if s.Awake != (done == frames) || poll || polls != frames {
				t.Errorf("after %d frames, the station is %+v", frames, s)
			}
			if s = impl.GroupDone(s); s != asleep(3, 0) {
				t.Errorf("in the end, the station is %+v", s)
			}
		}
	}
}

// waiting is what a station awaits, kept beside the states of a course.
type waiting struct {
	frame, group, awake bool
	passed              int
}

// hears is what a beacon with these announcements changes.
func (w *waiting) hears(own bool, group bool) bool {
	if !w.awake {
		return false
	}
	polls := own && !w.frame
	w.frame, w.group = w.frame || own, group
	w.rest()
	return polls
}

// rest lets the station sleep if it waits for nothing.
func (w *waiting) rest() {
	w.awake = w.frame || w.group
}

// step applies one random event to the state and to what the station awaits; the results say whether the station polls and whether it should.
func (w *waiting) step(random *rand.Rand, s impl.SleepState) (next impl.SleepState, poll bool, want bool) {
	switch event := random.IntN(12); {
	case event < 4:
		w.passed++
		if w.passed == s.Listen {
			w.passed, w.awake = 0, true
		}
		return impl.BeforeBeacon(s), false, false
	case event < 7:
		own, group, tim := random.IntN(2) == 0, random.IntN(3) == 0, random.IntN(65536)&^(1<<6)
		if own {
			tim |= 1 << 6
		}
		b := beacon(1, 10*random.IntN(1000), 0, 1+random.IntN(8), tim)
		b.GroupTraffic = group
		next, poll = impl.HearBeacon(s, b, 6)
		return next, poll, w.hears(own, group)
	case event < 9:
		more := random.IntN(2) == 0
		next, poll = impl.HearTraffic(s, more)
		if want = w.frame && more; w.frame && !more {
			w.frame = false
			w.rest()
		}
		return next, poll, want
	case event < 11:
		if w.group {
			w.group = false
			w.rest()
		}
		return impl.GroupDone(s), false, false
	default:
		if w.awake {
			w.passed = s.Listen - 1
			w.rest()
		}
		return impl.MissedBeacon(s), false, false
	}
}

// Over random courses, a station falls asleep exactly when it waits for no frame and for no group traffic any more.
func TestCoursesOfSleep(t *testing.T) {
	random := rand.New(rand.NewPCG(25, 1))
	reached := map[impl.SleepState]bool{}
	for course := range 800 {
		s, w := impl.NewSleepState(1+course%8), waiting{}
		for range 200 {
			next, poll, want := w.step(random, s)
			frames := 0
			if w.frame {
				frames = 1
			}
			if wanted := (impl.SleepState{Listen: 1 + course%8, Awake: w.awake, Beacons: w.passed, Polls: frames, WaitGroup: w.group}); next != wanted || poll != want {
				t.Fatalf("%+v becomes %+v, %v, not %+v, %v", s, next, poll, wanted, want)
			}
			if s.Awake && !next.Awake && (next.Polls != 0 || next.WaitGroup) || poll && !next.Awake {
				t.Fatalf("%+v falls asleep as %+v", s, next)
			}
			expectValidSleep(t, next, true)
			s = next
			reached[s] = true
		}
	}
	if len(reached) != 180 {
		t.Errorf("the courses reach %d states", len(reached))
	}
}

// Whatever the arguments, a valid state leads to a valid one, and an invalid one stays as it is.
func TestSleepStatesStayValid(t *testing.T) {
	random := rand.New(rand.NewPCG(25, 2))
	states, beacons := slices.Concat(sleepStates(), fewInvalidSleepStates()), slices.Concat(limitBeacons(), invalidBeacons())
	isValid := validSleepReference()
	for _, s := range states {
		for range 40 {
			heard, _ := impl.HearBeacon(s, beacons[random.IntN(len(beacons))], random.IntN(20)-2)
			traffic, _ := impl.HearTraffic(s, random.IntN(2) == 0)
			for _, next := range []impl.SleepState{heard, traffic, impl.BeforeBeacon(s), impl.GroupDone(s), impl.MissedBeacon(s)} {
				if isValid(s) && (!isValid(next) || next.Listen != s.Listen) || !isValid(s) && next != s {
					t.Errorf("%+v becomes %+v", s, next)
				}
			}
		}
	}
}

// The functions leave their arguments as they are, and answer the same at every time.
func TestSleepKeepsNoState(t *testing.T) {
	type answer struct {
		valid                          bool
		before, heard, traffic         impl.SleepState
		done, missed                   impl.SleepState
		pollAfterBeacon, pollAfterMore bool
		wakes                          int
	}
	ask := func(s impl.SleepState, b impl.Beacon) (a answer) {
		givenState, givenBeacon := s, b
		a.valid, a.before, a.done, a.missed, a.wakes = impl.IsValidSleepState(s), impl.BeforeBeacon(s), impl.GroupDone(s), impl.MissedBeacon(s), impl.WakesBy(s)
		a.heard, a.pollAfterBeacon = impl.HearBeacon(s, b, 4)
		a.traffic, a.pollAfterMore = impl.HearTraffic(s, true)
		if s != givenState || b != givenBeacon {
			t.Errorf("%+v and %+v have become %+v and %+v", givenState, givenBeacon, s, b)
		}
		return a
	}
	states := slices.Concat(sleepStates(), fewInvalidSleepStates())
	announcements := []impl.Beacon{beacon(1, 30, 0, 3, 0), withGroupTraffic(beacon(1, 30, 0, 3, 16)), beacon(1, 40, 2, 3, 16), {}}
	answers := []answer{}
	for _, s := range states {
		for _, b := range announcements {
			answers = append(answers, ask(s, b))
		}
	}
	for i := len(answers) - 1; i >= 0; i-- {
		s, b := states[i/len(announcements)], announcements[i%len(announcements)]
		if again := ask(s, b); again != answers[i] {
			t.Errorf("%+v with %+v gives %+v, not %+v", s, b, again, answers[i])
		}
	}
}
