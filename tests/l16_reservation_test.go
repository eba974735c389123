package tests

import (
	"math"
	"math/rand/v2"
	"slices"
	"testing"

	"loop.example/g00511/impl"
)

const (
	// mostUntil is the limit of the slot until which the medium is reserved.
	mostUntil = 1000000000000
	// lastHeard is the latest slot in which a frame is heard.
	lastHeard = mostUntil - 1001
)

// The lowest bits of some of the slots out of range are those of a slot in range.
var (
	goodEnds = []int{0, 1, 2, 17, 18, 999, 1000, 1001, 1 << 32, lastHeard, mostUntil - 1, mostUntil}
	notEnds  = []int{-1, mostUntil + 1, -2, -17, -mostUntil, mostUntil + 2, 1 << 40, 1 << 62, math.MinInt, math.MinInt + 1, math.MinInt + 17, math.MaxInt - 1, math.MaxInt}
	goodNows = []int{0, 1, 2, 10, 999, 1000, 1001, 1 << 32, lastHeard - 1, lastHeard}
	notNows  = []int{-1, lastHeard + 1, -2, -10, -1000, -1001, -1002, lastHeard + 2, mostUntil - 1000, mostUntil - 1, mostUntil, mostUntil + 1, 1 << 40, 1 << 62, math.MinInt, math.MinInt + 10, math.MaxInt - 1001, math.MaxInt - 1000, math.MaxInt - 1, math.MaxInt}
	// selves are numbers of stations, and others that no frame but one for the group has as its receiver.
	selves = slices.Concat(upTo(16), notStations)
)

func reservedUntil(until int, holder int, by int) impl.Reservation {
	return impl.Reservation{Until: until, Holder: holder, By: by}
}

func validReservationReference(r impl.Reservation) bool {
	return slices.Contains(upTo(16), r.Holder) && slices.Contains(upTo(16), r.By) && r.Until == max(0, min(r.Until, mostUntil))
}

// heardReference counts the slots that are left after now, which is in range, so that the sums are far from the limits of int.
func heardReference(r impl.Reservation, self int, f impl.MacFrame, now int) impl.Reservation {
	if !validReservationReference(r) || !validReference(f) || now < 0 || now > lastHeard {
		return r
	}
	left := r.Until - now - 1
	if left >= f.Duration || self == f.To {
		return r
	}
	heard := reservedUntil(now+1+f.Duration, f.From, f.From)
	if frameKinds[f.Kind-1].name == "grant" {
		heard.Holder = f.To
	}
	return heard
}

// requestReference adds one slot for the grant and one for the acknowledgment.
func requestReference(rate int, bytes int) int {
	slots := slotsReference(rate, bytes)
	switch {
	case slots == 0:
		return 0
	case slots > 998:
		return 1000
	}
	return slots + 2
}

// combinedReference returns the first of those whose Until is the greatest.
func combinedReference(list ...impl.Reservation) impl.Reservation {
	greatest := math.MinInt
	for _, r := range list {
		greatest = max(greatest, r.Until)
	}
	return list[slices.IndexFunc(list, func(r impl.Reservation) bool { return r.Until == greatest })]
}

// spoiltReservations are copies of the reservation, each with one field out of range.
func spoiltReservations(r impl.Reservation) []impl.Reservation {
	list := []impl.Reservation{}
	for _, until := range notEnds {
		list = append(list, reservedUntil(until, r.Holder, r.By))
	}
	for _, station := range notStations {
		list = append(list, reservedUntil(r.Until, station, r.By), reservedUntil(r.Until, r.Holder, station))
	}
	return list
}

// someReservations are empty, valid and invalid ones.
func someReservations() []impl.Reservation {
	list := []impl.Reservation{{}, reservedUntil(0, 3, 5)}
	for i, until := range slices.Concat(goodEnds, notEnds) {
		for j, holder := range stations {
			list = append(list, reservedUntil(until, holder, stations[(i+j)%len(stations)]))
		}
	}
	return append(list, spoiltReservations(reservedUntil(17, 1, 2))...)
}

// slotsAround are slots before and after until, and the limits; the sums wrap around.
func slotsAround(until int) []int {
	return []int{until - 1, until, until + 1, until - 2, until + 2, until - 1000, until + 1000, 0, -1, 1, -until, mostUntil, math.MinInt, math.MinInt + 1, math.MaxInt - 1, math.MaxInt}
}

// heardFrames are frames for stations and the group, of each kind and with each of the durations.
func heardFrames() []impl.MacFrame {
	list := []impl.MacFrame{}
	for i, kind := range frameKinds {
		for _, duration := range durations {
			for _, to := range []int{0, 2, 15, 63} {
				if to < 16 || kind.group {
					list = append(list, impl.MacFrame{Kind: i + 1, From: 1, To: to, Seq: 4095, More: kind.group, Retry: to == 2, Duration: duration})
				}
			}
		}
	}
	return list
}

func expectValidReservation(t *testing.T, r impl.Reservation, want bool) {
	t.Helper()
	if got := impl.IsValidReservation(r); got != want {
		t.Errorf("IsValidReservation(%+v) is %v", r, got)
	}
}

func expectReserved(t *testing.T, r impl.Reservation, now int, want bool) {
	t.Helper()
	if got := impl.IsReserved(r, now); got != want {
		t.Errorf("IsReserved(%+v, %d) is %v", r, now, got)
	}
}

func expectHeard(t *testing.T, r impl.Reservation, self int, f impl.MacFrame, now int, want impl.Reservation) {
	t.Helper()
	if got := impl.HearFrame(r, self, f, now); got != want {
		t.Errorf("HearFrame(%+v, %d, %+v, %d) is %+v, not %+v", r, self, f, now, got, want)
	}
}

func expectReleased(t *testing.T, r impl.Reservation, now int, heard bool, want impl.Reservation) {
	t.Helper()
	if got := impl.ReleaseUnused(r, now, heard); got != want {
		t.Errorf("ReleaseUnused(%+v, %d, %v) is %+v, not %+v", r, now, heard, got, want)
	}
}

func expectMayTransmit(t *testing.T, r impl.Reservation, self int, now int, want bool) {
	t.Helper()
	if got := impl.MayTransmit(r, self, now); got != want {
		t.Errorf("MayTransmit(%+v, %d, %d) is %v", r, self, now, got)
	}
}

func expectRequestDuration(t *testing.T, rate int, bytes int, want int) {
	t.Helper()
	if got := impl.RequestDuration(rate, bytes); got != want {
		t.Errorf("RequestDuration(%d, %d) is %d, not %d", rate, bytes, got, want)
	}
}

func expectGrantDuration(t *testing.T, request int, want int) {
	t.Helper()
	if got := impl.GrantDuration(request); got != want {
		t.Errorf("GrantDuration(%d) is %d, not %d", request, got, want)
	}
}

func expectCombined(t *testing.T, a impl.Reservation, b impl.Reservation, want impl.Reservation) {
	t.Helper()
	if got := impl.CombineReservations(a, b); got != want {
		t.Errorf("CombineReservations(%+v, %+v) is %+v, not %+v", a, b, got, want)
	}
}

func TestConstantsOfReservations(t *testing.T) {
	if impl.MaxValue != mostUntil || impl.MaxStations != 16 || impl.MaxDuration != 1000 || impl.ControlSlots != 1 {
		t.Error(impl.MaxValue, impl.MaxStations, impl.MaxDuration, impl.ControlSlots)
	}
}

func TestIsValidReservation(t *testing.T) {
	expectValidReservation(t, impl.Reservation{}, true)
	for _, c := range []struct {
		until, holder, by int
		want              bool
	}{
		{17, 1, 2, true}, {17, 2, 2, true}, {0, 0, 0, true}, {0, 3, 5, true}, {mostUntil, 15, 15, true},
		{-1, 1, 2, false}, {0, 1, 2, true}, {1, 1, 2, true}, {mostUntil, 1, 2, true}, {mostUntil + 1, 1, 2, false}, {math.MinInt, 1, 2, false}, {math.MaxInt, 1, 2, false},
		{17, -1, 2, false}, {17, 0, 2, true}, {17, 15, 2, true}, {17, 16, 2, false}, {17, 63, 2, false}, {17, math.MinInt, 2, false}, {17, math.MaxInt, 2, false},
		{17, 1, -1, false}, {17, 1, 0, true}, {17, 1, 15, true}, {17, 1, 16, false}, {17, 1, 63, false}, {17, 1, math.MinInt, false}, {17, 1, math.MaxInt, false},
		// The stations matter in an empty reservation, too.
		{0, -1, 0, false}, {0, 16, 0, false}, {0, 0, -1, false}, {0, 0, 16, false},
	} {
		expectValidReservation(t, reservedUntil(c.until, c.holder, c.by), c.want)
	}
}

func TestIsValidReservationOfAllFields(t *testing.T) {
	addresses := slices.Concat(upTo(16), notStations)
	for i, until := range slices.Concat(goodEnds, notEnds) {
		for j, holder := range addresses {
			for k, by := range addresses {
				expectValidReservation(t, reservedUntil(until, holder, by), i < len(goodEnds) && j < 16 && k < 16)
			}
		}
	}
}

func TestIsReserved(t *testing.T) {
	for _, c := range []struct {
		until, now int
		want       bool
	}{
		{17, 16, true}, {17, 17, false}, {17, 18, false}, {17, 0, true}, {17, -1, true}, {17, math.MinInt, true}, {17, math.MaxInt, false},
		{1, 0, true}, {1, 1, false}, {mostUntil, mostUntil - 1, true}, {mostUntil, mostUntil, false},
		{0, -1, true}, {0, 0, false}, {0, 1, false}, {0, math.MinInt, true}, {0, math.MaxInt, false},
		{-1, -2, true}, {-1, -1, false}, {-1, 0, false}, {mostUntil + 1, mostUntil, true}, {mostUntil + 1, mostUntil + 1, false},
		{math.MinInt, math.MinInt, false}, {math.MinInt, math.MinInt + 1, false}, {math.MinInt, -1, false}, {math.MinInt, 0, false}, {math.MinInt, 1, false}, {math.MinInt, math.MaxInt, false},
		{math.MaxInt, math.MaxInt, false}, {math.MaxInt, math.MaxInt - 1, true}, {math.MaxInt, 0, true}, {math.MaxInt, -1, true}, {math.MaxInt, -2, true}, {math.MaxInt, math.MinInt, true},
		{math.MinInt + 1, math.MinInt, true}, {math.MaxInt - 1, math.MaxInt, false}, {-5, math.MaxInt, false}, {5, math.MinInt, true},
	} {
		for _, station := range []int{0, 7, -1, 16, math.MinInt, math.MaxInt} {
			expectReserved(t, reservedUntil(c.until, station, 3), c.now, c.want)
			expectReserved(t, reservedUntil(c.until, 3, station), c.now, c.want)
		}
	}
}

func TestIsReservedAgainstReference(t *testing.T) {
	for _, r := range someReservations() {
		for _, now := range slotsAround(r.Until) {
			expectReserved(t, r, now, max(now, r.Until) != now)
		}
	}
}

// Fixed values: the frames end in slot 10 and reserve 6 slots, so that the medium is free again in slot 17.
func TestHearFrameOfKinds(t *testing.T) {
	for kind := 1; kind <= 7; kind++ {
		f := impl.MacFrame{Kind: kind, From: 3, To: 5, Seq: 4095, Fragment: 15, Duration: 6}
		want := reservedUntil(17, 3, 3)
		if kind == impl.FrameGrant {
			want = reservedUntil(17, 5, 3)
		}
		for _, self := range selves {
			if self == 5 {
				expectHeard(t, impl.Reservation{}, self, f, 10, impl.Reservation{})
				expectHeard(t, reservedUntil(9, 7, 8), self, f, 10, reservedUntil(9, 7, 8))
				continue
			}
			expectHeard(t, impl.Reservation{}, self, f, 10, want)
			expectHeard(t, reservedUntil(9, 7, 8), self, f, 10, want)
			expectHeard(t, reservedUntil(16, 7, 8), self, f, 10, want)
			expectHeard(t, reservedUntil(17, 7, 8), self, f, 10, reservedUntil(17, 7, 8))
			expectHeard(t, reservedUntil(18, 7, 8), self, f, 10, reservedUntil(18, 7, 8))
		}
	}
}

// A frame for the group is for no station itself; only the group's own address is its receiver.
func TestHearFrameOfGroup(t *testing.T) {
	for kind := 1; kind <= 7; kind++ {
		f := impl.MacFrame{Kind: kind, From: 3, To: 63, Duration: 6}
		for _, self := range selves {
			want := reservedUntil(17, 3, 3)
			if self == 63 || !slices.Contains([]int{impl.FrameData, impl.FrameBeacon, impl.FrameManagement}, kind) {
				want = reservedUntil(9, 7, 8)
			}
			expectHeard(t, reservedUntil(9, 7, 8), self, f, 10, want)
		}
	}
}

// The fields that do not say anything of the reservation do not matter.
func TestHearFrameOfOtherFields(t *testing.T) {
	for _, f := range limitFrames() {
		want := reservedUntil(11+f.Duration, f.From, f.From)
		if f.Kind == impl.FrameGrant {
			want.Holder = f.To
		}
		expectHeard(t, impl.Reservation{}, 4, f, 10, want)
		expectHeard(t, impl.Reservation{}, f.From, f, 10, want)
		expectHeard(t, impl.Reservation{}, f.To, f, 10, impl.Reservation{})
	}
}

// Fixed values at the limits of now and Duration.
func TestHearFrameAtLimits(t *testing.T) {
	old := reservedUntil(0, 7, 8)
	for _, c := range []struct{ now, duration, until int }{
		{0, 0, 1}, {0, 1, 2}, {0, 1000, 1001}, {1, 0, 2}, {999, 1000, 2000},
		{lastHeard - 1, 0, 999999998999}, {lastHeard - 1, 1000, 999999999999},
		{lastHeard, 0, 999999999000}, {lastHeard, 1, 999999999001}, {lastHeard, 999, 999999999999}, {lastHeard, 1000, 1000000000000},
	} {
		expectHeard(t, old, 4, impl.MacFrame{Kind: impl.FrameRequest, From: 1, To: 2, Duration: c.duration}, c.now, reservedUntil(c.until, 1, 1))
		expectHeard(t, old, 4, impl.MacFrame{Kind: impl.FrameGrant, From: 1, To: 2, Duration: c.duration}, c.now, reservedUntil(c.until, 2, 1))
	}
	for _, now := range notNows {
		for _, f := range heardFrames() {
			expectHeard(t, old, 4, f, now, old)
			expectHeard(t, reservedUntil(17, 7, 8), 4, f, now, reservedUntil(17, 7, 8))
		}
	}
}

// A reservation that ends one slot earlier is replaced, one that ends in the same slot or later is not.
func TestHearFrameNeverShortens(t *testing.T) {
	for _, now := range goodNows {
		for _, f := range heardFrames() {
			until := now + 1 + f.Duration
			heard := impl.HearFrame(impl.Reservation{}, 4, f, now)
			if heard.Until != until {
				t.Errorf("the reservation of %+v in slot %d ends in slot %d", f, now, heard.Until)
			}
			expectHeard(t, reservedUntil(until-1, 7, 8), 4, f, now, heard)
			expectHeard(t, reservedUntil(until, 7, 8), 4, f, now, reservedUntil(until, 7, 8))
			// Where one slot later is beyond MaxValue, it is kept because it is invalid.
			expectHeard(t, reservedUntil(until+1, 7, 8), 4, f, now, reservedUntil(until+1, 7, 8))
			expectHeard(t, heard, 4, f, now, heard)
			shorter := f
			shorter.Duration, shorter.From, shorter.To = max(f.Duration-1, 0), 13, 14
			expectHeard(t, heard, 4, shorter, now, heard)
		}
	}
}

// With an invalid frame, the reservation stays as it is.
func TestHearFrameOfInvalidFrames(t *testing.T) {
	list := []impl.MacFrame{{}, {Kind: 1, Duration: 6}}
	for kind := 1; kind <= 7; kind++ {
		list = append(list, spoiltFrames(simpleFrame(kind, 1, 2))...)
	}
	for _, kind := range []int{1, 5, 6} {
		list = append(list, spoiltFrames(simpleFrame(kind, 1, 63))...)
	}
	for _, f := range list {
		if validReference(f) {
			t.Fatalf("%+v is valid", f)
		}
		for _, r := range []impl.Reservation{{}, reservedUntil(0, 7, 8), reservedUntil(12, 7, 8), reservedUntil(mostUntil, 15, 15), reservedUntil(-1, 7, 8), reservedUntil(0, 16, 8)} {
			for _, now := range []int{0, 10, lastHeard} {
				expectHeard(t, r, 4, f, now, r)
			}
		}
	}
}

// An invalid reservation is returned as it is, although most of these end before that of the frame.
func TestHearFrameOfInvalidReservations(t *testing.T) {
	list := []impl.Reservation{}
	for _, until := range []int{0, 5, 12, lastHeard, mostUntil} {
		list = append(list, spoiltReservations(reservedUntil(until, 7, 8))...)
	}
	for _, r := range list {
		if validReservationReference(r) {
			t.Fatalf("%+v is valid", r)
		}
		for kind := 1; kind <= 7; kind++ {
			for _, now := range []int{0, 10, lastHeard} {
				f := impl.MacFrame{Kind: kind, From: 1, To: 2, Duration: 1000}
				expectHeard(t, r, 4, f, now, r)
				expectHeard(t, r, 2, f, now, r)
			}
		}
	}
}

func TestHearFrameAgainstReference(t *testing.T) {
	reservations := someReservations()
	nows := slices.Concat(goodNows, notNows)
	for i, f := range heardFrames() {
		for j, r := range reservations {
			for k, now := range nows {
				self := selves[(i+j+k)%len(selves)]
				expectHeard(t, r, self, f, now, heardReference(r, self, f, now))
				expectHeard(t, r, f.From, f, now, heardReference(r, f.From, f, now))
				expectHeard(t, r, f.To, f, now, r)
			}
		}
	}
}

// randomFrame returns a frame that is mostly valid.
func randomFrame(random *rand.Rand) impl.MacFrame {
	kind := 1 + random.IntN(7)
	f := impl.MacFrame{Kind: kind, From: random.IntN(16), To: random.IntN(16), Duration: random.IntN(30)}
	switch random.IntN(8) {
	case 0:
		f.Duration = 1001
	case 1:
		f.Duration = random.IntN(1001)
	case 2:
		f.To = 63
	}
	return f
}

// A valid reservation stays valid and never ends earlier than before.
func TestCourseOfReservations(t *testing.T) {
	random := rand.New(rand.NewPCG(16, 1))
	for range 200 {
		r, self := impl.Reservation{}, random.IntN(16)
		now := []int{0, 5000, lastHeard - 200}[random.IntN(3)]
		for range 100 {
			f := randomFrame(random)
			next := impl.HearFrame(r, self, f, now)
			expectHeard(t, r, self, f, now, heardReference(r, self, f, now))
			if next.Until < r.Until || !impl.IsValidReservation(next) {
				t.Fatalf("%+v became %+v after %+v in slot %d", r, next, f, now)
			}
			r = next
			now += random.IntN(6)
		}
	}
}

// expectSilent checks that in the slots up to until only the holder may transmit, and from then on all may.
func expectSilent(t *testing.T, r impl.Reservation, from int, until int, holder int) {
	t.Helper()
	for now := from; now < until+3; now++ {
		expectReserved(t, r, now, now < until)
		for self := -1; self <= 16; self++ {
			expectMayTransmit(t, r, self, now, now >= until || self == holder)
		}
		expectMayTransmit(t, r, 63, now, now >= until)
	}
}

// Promise 16 for each kind of frame: nobody but the holder may transmit in any of the slots that the frame reserves.
func TestSilentUntilReservationEnds(t *testing.T) {
	for kind := 1; kind <= 7; kind++ {
		for _, duration := range []int{0, 1, 2, 6, 1000} {
			for _, now := range []int{0, 10, lastHeard} {
				f := impl.MacFrame{Kind: kind, From: 1, To: 2, Duration: duration}
				holder := 1
				if kind == impl.FrameGrant {
					holder = 2
				}
				for _, self := range []int{0, 1, 3, 15} {
					r := impl.HearFrame(impl.Reservation{}, self, f, now)
					expectSilent(t, r, now, now+1+duration, holder)
				}
				// The receiver of the frame has reserved nothing for others.
				r := impl.HearFrame(impl.Reservation{}, 2, f, now)
				expectMayTransmit(t, r, 2, now+1, true)
			}
		}
	}
}

// Promise 16 for a station that hears many frames: of the reservations that they announce, the one with the latest end holds.
func TestSilentAfterManyFrames(t *testing.T) {
	random := rand.New(rand.NewPCG(16, 2))
	for range 300 {
		self, r, now := random.IntN(16), impl.Reservation{}, 20
		heard := []impl.Reservation{{}}
		for range 20 {
			f := randomFrame(random)
			if validReference(f) && f.To != self {
				holder := f.From
				if f.Kind == 4 {
					holder = f.To
				}
				heard = append(heard, reservedUntil(now+1+f.Duration, holder, f.From))
			}
			r = impl.HearFrame(r, self, f, now)
			lasts := combinedReference(heard...)
			if r != lasts {
				t.Fatalf("the reservation is %+v, not %+v, in slot %d", r, lasts, now)
			}
			for later := range 40 {
				expectMayTransmit(t, r, self, now+1+later, now+1+later >= lasts.Until || lasts.Holder == self)
			}
			now += 1 + random.IntN(10)
		}
	}
}

// A request, its grant, the frame and the acknowledgment: whichever of them a station hears, the medium is reserved until the slot after the acknowledgment.
func TestReservationOfExchange(t *testing.T) {
	for rate := range 4 {
		for _, bytes := range []int{0, 1, 20, 100, 1000} {
			for _, start := range []int{0, 10, 12345} {
				request := impl.MacFrame{Kind: impl.FrameRequest, From: 1, To: 2, Duration: impl.RequestDuration(rate, bytes)}
				grant, _ := impl.ReplyTo(request)
				if grant.Kind != impl.FrameGrant || grant.Duration != impl.GrantDuration(request.Duration) {
					t.Errorf("%+v is granted by %+v", request, grant)
				}
				frame := impl.MacFrame{Kind: impl.FrameData, From: 1, To: 2, Duration: impl.ControlSlots}
				ack, _ := impl.ReplyTo(frame)
				ends := []int{start, start + 1, start + 1 + slotsReference(rate, bytes), start + 2 + slotsReference(rate, bytes)}
				until := ends[3] + 1
				// The bits of heard tell which of the frames the station hears.
				for heard := 1; heard < 16; heard++ {
					r, by := impl.Reservation{}, -1
					for i, f := range []impl.MacFrame{request, grant, frame, ack} {
						if heard>>i%2 == 0 {
							continue
						}
						if by < 0 {
							by = f.From
						}
						r = impl.HearFrame(r, 3, f, ends[i])
						expectMayTransmit(t, r, 3, ends[i]+1, ends[i]+1 == until)
					}
					want := reservedUntil(until, 1, by)
					if heard == 8 {
						want.Holder = 2
					}
					if r != want {
						t.Errorf("with the frames %04b of the exchange the reservation is %+v, not %+v", heard, r, want)
					}
				}
			}
		}
	}
}

func TestReleaseUnused(t *testing.T) {
	for _, c := range []struct {
		r     impl.Reservation
		now   int
		heard bool
		want  impl.Reservation
	}{
		{reservedUntil(17, 1, 2), 16, false, impl.Reservation{}}, {reservedUntil(17, 1, 2), 17, false, reservedUntil(17, 1, 2)}, {reservedUntil(17, 1, 2), 18, false, reservedUntil(17, 1, 2)},
		{reservedUntil(17, 1, 2), 16, true, reservedUntil(17, 1, 2)}, {reservedUntil(17, 1, 2), 17, true, reservedUntil(17, 1, 2)}, {reservedUntil(17, 1, 2), 18, true, reservedUntil(17, 1, 2)},
		{reservedUntil(17, 1, 2), 0, false, impl.Reservation{}}, {reservedUntil(17, 1, 2), math.MinInt, false, impl.Reservation{}}, {reservedUntil(17, 1, 2), math.MaxInt, false, reservedUntil(17, 1, 2)},
		// Empty ones, of which the second is not the empty Reservation.
		{impl.Reservation{}, 0, false, impl.Reservation{}}, {impl.Reservation{}, -1, false, impl.Reservation{}},
		{reservedUntil(0, 3, 5), 0, false, reservedUntil(0, 3, 5)}, {reservedUntil(0, 3, 5), 1, false, reservedUntil(0, 3, 5)}, {reservedUntil(0, 3, 5), -1, false, impl.Reservation{}}, {reservedUntil(0, 3, 5), -1, true, reservedUntil(0, 3, 5)},
		// Invalid ones
		{reservedUntil(17, -1, 16), 16, false, impl.Reservation{}}, {reservedUntil(17, -1, 16), 17, false, reservedUntil(17, -1, 16)}, {reservedUntil(17, -1, 16), 16, true, reservedUntil(17, -1, 16)},
		{reservedUntil(-5, 1, 2), -6, false, impl.Reservation{}}, {reservedUntil(-5, 1, 2), -5, false, reservedUntil(-5, 1, 2)}, {reservedUntil(-5, 1, 2), 0, false, reservedUntil(-5, 1, 2)},
		{reservedUntil(math.MaxInt, 1, 2), math.MaxInt, false, reservedUntil(math.MaxInt, 1, 2)}, {reservedUntil(math.MaxInt, 1, 2), math.MaxInt - 1, false, impl.Reservation{}},
		{reservedUntil(math.MinInt, 1, 2), math.MinInt, false, reservedUntil(math.MinInt, 1, 2)}, {reservedUntil(math.MinInt, 1, 2), math.MaxInt, false, reservedUntil(math.MinInt, 1, 2)},
	} {
		expectReleased(t, c.r, c.now, c.heard, c.want)
	}
}

func TestReleaseUnusedAgainstReference(t *testing.T) {
	for _, r := range someReservations() {
		for _, now := range slotsAround(r.Until) {
			want := r
			if max(now, r.Until) != now {
				want = impl.Reservation{}
			}
			expectReleased(t, r, now, false, want)
			expectReleased(t, r, now, true, r)
		}
	}
}

// What is released lets all stations transmit.
func TestReleasedMediumIsFree(t *testing.T) {
	for _, until := range goodEnds[1:] {
		r := impl.ReleaseUnused(reservedUntil(until, 1, 2), until-1, false)
		for self := -1; self <= 16; self++ {
			expectMayTransmit(t, r, self, until-1, true)
		}
		expectReserved(t, r, 0, false)
	}
}

func TestMayTransmit(t *testing.T) {
	for _, c := range []struct {
		until, holder, self, now int
		want                     bool
	}{
		{17, 1, 1, 16, true}, {17, 1, 2, 16, false}, {17, 1, 3, 16, false}, {17, 1, 1, 17, true}, {17, 1, 2, 17, true}, {17, 1, 3, 17, true}, {17, 1, 3, 18, true}, {17, 1, 3, 0, false},
		{0, 1, 3, 0, true}, {0, 1, 3, -1, false}, {0, 1, 1, -1, true}, {0, 0, 3, 0, true}, {0, 0, 0, -1, true},
		{17, 1, -1, 16, false}, {17, 1, 16, 16, false}, {17, 1, 63, 16, false}, {17, 1, math.MinInt, 16, false}, {17, 1, math.MaxInt, 16, false},
		{17, 1, -1, 17, true}, {17, 1, 63, 17, true}, {17, 1, math.MinInt, 17, true}, {17, 1, math.MaxInt, 17, true},
		// A holder that is no station is a holder nevertheless.
		{17, -1, -1, 16, true}, {17, -1, 1, 16, false}, {17, 16, 16, 16, true}, {17, 63, 63, 16, true}, {17, 63, 1, 16, false}, {17, math.MinInt, math.MinInt, 16, true}, {17, math.MinInt, math.MaxInt, 16, false},
		{math.MaxInt, 1, 3, math.MaxInt, true}, {math.MaxInt, 1, 3, math.MaxInt - 1, false}, {math.MaxInt, 1, 3, math.MinInt, false}, {math.MaxInt, 1, 1, math.MinInt, true},
		{math.MinInt, 1, 3, math.MinInt, true}, {math.MinInt, 1, 3, math.MaxInt, true}, {math.MinInt, 1, 3, 0, true}, {-5, 1, 3, -6, false}, {-5, 1, 3, -5, true}, {-5, 1, 3, 0, true},
	} {
		// The station that announced the reservation does not hold it for that.
		for _, by := range []int{0, 2, 3, -1, 16} {
			expectMayTransmit(t, reservedUntil(c.until, c.holder, by), c.self, c.now, c.want)
		}
	}
}

func TestMayTransmitAgainstReference(t *testing.T) {
	for _, r := range someReservations() {
		for _, now := range slotsAround(r.Until) {
			for _, self := range append([]int{r.Holder, r.By, r.Until, now}, selves...) {
				expectMayTransmit(t, r, self, now, max(now, r.Until) == now || self == r.Holder)
			}
		}
	}
}

// Fixed values: besides the slots of the bytes there are three, so that 997 slots of bytes reach MaxDuration, from the byte behind most up to last.
func TestRequestDuration(t *testing.T) {
	for rate, c := range []struct{ full, most, last int }{{4, 3984, 3988}, {8, 7968, 7976}, {12, 11952, 11964}, {24, 23904, 23928}} {
		for _, row := range [][2]int{
			{0, 3}, {1, 4}, {c.full - 1, 4}, {c.full, 4}, {c.full + 1, 5}, {2 * c.full, 5}, {2*c.full + 1, 6}, {10*c.full - 1, 13}, {10 * c.full, 13}, {10*c.full + 1, 14},
			{c.most - c.full, 998}, {c.most - 1, 999}, {c.most, 999}, {c.most + 1, 1000}, {c.last - 1, 1000}, {c.last, 1000}, {c.last + 1, 1000}, {c.last + c.full, 1000}, {c.last + c.full + 1, 1000},
			{mostUntil - 1, 1000}, {mostUntil, 1000}, {mostUntil + 1, 0}, {-1, 0}, {math.MinInt, 0}, {math.MaxInt, 0},
		} {
			expectRequestDuration(t, rate, row[0], row[1])
		}
	}
	expectRequestDuration(t, 1, 20, 6)
	for _, rate := range notRateIndices {
		for _, bytes := range []int{0, 1, 20, 100, 5000, mostUntil, -1, mostUntil + 1, math.MinInt, math.MaxInt} {
			expectRequestDuration(t, rate, bytes, 0)
		}
	}
}

func TestRequestDurationAgainstReference(t *testing.T) {
	for rate := range 4 {
		for bytes := range 25000 {
			expectRequestDuration(t, rate, bytes, requestReference(rate, bytes))
		}
		for _, bytes := range byteCounts() {
			expectRequestDuration(t, rate, bytes, requestReference(rate, bytes))
		}
		for _, bytes := range notByteCounts {
			expectRequestDuration(t, rate, bytes, 0)
		}
	}
}

func TestGrantDuration(t *testing.T) {
	for _, c := range [][2]int{
		{-1, 0}, {0, 0}, {1, 0}, {2, 1}, {3, 2}, {6, 5}, {999, 998}, {1000, 999}, {1001, 1000}, {mostUntil, mostUntil - 1}, {mostUntil + 1, mostUntil},
		{-2, 0}, {-1000, 0}, {math.MinInt, 0}, {math.MinInt + 1, 0}, {math.MaxInt - 1, math.MaxInt - 2}, {math.MaxInt, math.MaxInt - 1},
	} {
		expectGrantDuration(t, c[0], c[1])
	}
	for request := -3000; request <= 3000; request++ {
		expectGrantDuration(t, request, max(request, 1)-1)
	}
}

func TestCombineReservations(t *testing.T) {
	a := reservedUntil(17, 1, 2)
	for _, until := range []int{18, 19, mostUntil, mostUntil + 1, math.MaxInt} {
		b := reservedUntil(until, 3, 4)
		expectCombined(t, a, b, b)
		expectCombined(t, b, a, b)
	}
	for _, until := range []int{16, 0, -1, -17, math.MinInt} {
		b := reservedUntil(until, 3, 4)
		expectCombined(t, a, b, a)
		expectCombined(t, b, a, a)
	}
	for _, b := range []impl.Reservation{reservedUntil(17, 1, 3), reservedUntil(17, 2, 2), reservedUntil(17, 0, 0), reservedUntil(17, 15, 15), reservedUntil(17, -1, 16), reservedUntil(17, math.MaxInt, math.MinInt)} {
		expectCombined(t, a, b, a)
		expectCombined(t, b, a, b)
	}
	expectCombined(t, impl.Reservation{}, reservedUntil(0, 3, 5), impl.Reservation{})
	expectCombined(t, reservedUntil(0, 3, 5), impl.Reservation{}, reservedUntil(0, 3, 5))
}

func TestCombineReservationsAgainstReference(t *testing.T) {
	list := someReservations()
	for _, a := range list {
		for _, b := range list {
			expectCombined(t, a, b, combinedReference(a, b))
		}
		for _, until := range []int{a.Until - 1, a.Until, a.Until + 1} {
			b := reservedUntil(until, a.Holder+1, a.By-1)
			expectCombined(t, a, b, combinedReference(a, b))
			expectCombined(t, b, a, combinedReference(b, a))
		}
	}
}

func TestHearFrameKeepsItsFrame(t *testing.T) {
	for _, f := range slices.Concat(limitFrames(), spoiltFrames(simpleFrame(1, 1, 2)), spoiltFrames(simpleFrame(4, 1, 2))) {
		body := slices.Clone(f.Body)
		f.Body = withSpare(body...)
		for _, self := range []int{4, 2, 1} {
			impl.HearFrame(impl.Reservation{}, self, f, 10)
			impl.HearFrame(reservedUntil(2000, 7, 8), self, f, 10)
			impl.HearFrame(reservedUntil(12, 16, 8), self, f, 10)
			impl.HearFrame(reservedUntil(12, 7, 8), self, f, -1)
		}
		checkSpare(t, "HearFrame", f.Body, body...)
	}
}

// The calls between two equal calls change nothing, neither the argument nor what was returned.
func TestReservationsKeepNoState(t *testing.T) {
	type answers struct {
		heard, granted, unused, used, first, second impl.Reservation
		valid, reserved, may                        bool
		request, grant                              int
	}
	f := impl.MacFrame{Kind: impl.FrameData, From: 1, To: 63, Duration: 6, Body: withSpare(1, 2, 3)}
	ask := func(r impl.Reservation, now int) answers {
		given := r
		a := answers{valid: impl.IsValidReservation(r), reserved: impl.IsReserved(r, now), may: impl.MayTransmit(r, 7, now)}
		a.heard, a.granted = impl.HearFrame(r, 4, f, now), impl.HearFrame(r, 4, simpleFrame(4, 5, 6), now)
		a.unused, a.used = impl.ReleaseUnused(r, now, false), impl.ReleaseUnused(r, now, true)
		a.first, a.second = impl.CombineReservations(r, reservedUntil(now, 1, 2)), impl.CombineReservations(reservedUntil(now, 1, 2), r)
		a.request, a.grant = impl.RequestDuration(r.Holder%4, now), impl.GrantDuration(now)
		if r != given {
			t.Errorf("%+v became %+v", given, r)
		}
		checkSpare(t, "a function of reservations", f.Body, 1, 2, 3)
		return a
	}
	list := someReservations()
	for _, now := range []int{-1, 0, 10, 16, 17, lastHeard} {
		first := []answers{}
		for _, r := range list {
			first = append(first, ask(r, now))
		}
		kept := slices.Clone(first)
		for i, r := range slices.Backward(list) {
			ask(r, now+5)
			if got := ask(r, now); got != first[i] {
				t.Errorf("the answers for %+v in slot %d became %+v, not %+v", r, now, got, first[i])
			}
		}
		if !slices.Equal(first, kept) {
			t.Error("answers were changed by later calls")
		}
	}
}
