package tests

import (
	"math"
	"math/rand/v2"
	"slices"
	"testing"

	"loop.example/g00511/impl"
)

// rateThresholds are all thresholds.
var rateThresholds = []int{10, 20, 40}

// The lowest bits of some of the numbers out of range are those of a number in range.
var (
	notRateThresholds = []int{0, 9, 11, 19, 21, 39, 41, 80, -1, 1, 5, 12, 15, 18, 22, 25, 30, 35, 38, 42, 60, 79, 81, 160, 266, 1 << 32, 1<<32 + 10, -10, -20, -40, -1<<32 + 20, math.MinInt, math.MinInt + 10, math.MinInt + 40, math.MaxInt - 1, math.MaxInt}
	notBads           = []int{-1, 2, -2, 3, 4, 10, 256, 257, 1 << 32, 1<<32 + 1, -1<<32 + 1, math.MinInt, math.MinInt + 1, math.MaxInt - 1, math.MaxInt}
	// farGoods are in the range of Good with no threshold.
	farGoods = []int{-1, 41, -2, -10, -40, 42, 80, 256, 261, 1 << 32, 1<<32 + 5, -1<<32 + 5, math.MinInt, math.MinInt + 1, math.MinInt + 5, math.MaxInt - 1, math.MaxInt}
)

// usedRate is the state of a rate that has been used.
func usedRate(rate int, good int, bad int, threshold int) impl.RateState {
	return impl.RateState{Rate: rate, Good: good, Bad: bad, Threshold: threshold}
}

// triedRate is the state of a rate that was selected just now.
func triedRate(rate int, threshold int) impl.RateState {
	return impl.RateState{Rate: rate, Threshold: threshold, Probing: true}
}

// validRateStates returns all valid states: those with successes or none, with a failure, and the probing one, of each rate and threshold.
func validRateStates() []impl.RateState {
	list := []impl.RateState{}
	for rate := range 4 {
		for _, threshold := range rateThresholds {
			for good := range threshold + 1 {
				list = append(list, usedRate(rate, good, 0, threshold))
			}
			list = append(list, usedRate(rate, 0, 1, threshold), triedRate(rate, threshold))
		}
	}
	return list
}

func validRateSet() map[impl.RateState]bool {
	valid := map[impl.RateState]bool{}
	for _, s := range validRateStates() {
		valid[s] = true
	}
	return valid
}

// successReference changes the fields as chapter 23 says.
func successReference(s impl.RateState) impl.RateState {
	s.Good, s.Bad, s.Probing = min(s.Good+1, s.Threshold), 0, false
	if s.Good == s.Threshold && s.Rate < 3 {
		s.Rate, s.Good, s.Probing = s.Rate+1, 0, true
	}
	return s
}

// failureReference changes the fields as chapter 23 says.
func failureReference(s impl.RateState) impl.RateState {
	isProbe := s.Probing && s.Rate != 0
	s.Probing = false
	if isProbe {
		s.Rate, s.Threshold, s.Good, s.Bad = s.Rate-1, min(s.Threshold+s.Threshold, 40), 0, 0
		return s
	}
	s.Good, s.Bad = 0, s.Bad+1
	if s.Bad == 2 {
		s.Bad, s.Threshold, s.Rate = 0, 10, max(s.Rate-1, 0)
	}
	return s
}

// outcomesReference applies the references in order; s is valid.
func outcomesReference(s impl.RateState, outcomes []bool) impl.RateState {
	for _, succeeded := range outcomes {
		if succeeded {
			s = successReference(s)
		} else {
			s = failureReference(s)
		}
	}
	return s
}

// fastestReference tries the rates from the highest one to the lowest one.
func fastestReference(bytes int, quality int) int {
	fastest, least := -1, math.MaxInt
	for rate := 3; rate >= 0; rate-- {
		slots := expectedReference(rate, bytes, quality)
		if slots != -1 && slots <= least {
			fastest, least = rate, slots
		}
	}
	return fastest
}

// outcomesOf has a success for each + and a failure for each -.
func outcomesOf(text string) []bool {
	outcomes := []bool{}
	for _, sign := range text {
		outcomes = append(outcomes, sign == '+')
	}
	return outcomes
}

func rowOf(succeeded bool, count int) []bool {
	return slices.Repeat([]bool{succeeded}, count)
}

func randomOutcomes(random *rand.Rand, count int, percent int) []bool {
	outcomes := []bool{}
	for range count {
		outcomes = append(outcomes, random.IntN(100) < percent)
	}
	return outcomes
}

// spoiltRateStates returns states that are invalid in one field alone, the other fields being those of s, which is valid.
func spoiltRateStates(s impl.RateState) []impl.RateState {
	list := []impl.RateState{}
	add := func(field *int, wrong ...int) {
		right := *field
		for _, n := range wrong {
			*field = n
			list = append(list, s)
		}
		*field = right
	}
	add(&s.Rate, notRateIndices...)
	add(&s.Threshold, notRateThresholds...)
	add(&s.Good, s.Threshold+1, s.Threshold+2, 2*s.Threshold+1)
	add(&s.Good, farGoods...)
	add(&s.Bad, notBads...)
	if s.Good > 0 {
		add(&s.Bad, 1)
	}
	if s.Bad > 0 || s.Probing {
		add(&s.Good, 1, 2, 9, s.Threshold-1, s.Threshold)
	}
	if s.Probing {
		add(&s.Bad, 1)
	}
	if s.Good > 0 || s.Bad > 0 {
		s.Probing = true
		list = append(list, s)
	}
	return list
}

// invalidRateStates returns the zero state, those that are invalid in one field alone, and some with several such fields.
func invalidRateStates() []impl.RateState {
	list := []impl.RateState{{}, {Probing: true}, {Rate: 1}, {Rate: 3, Probing: true}, {Rate: -1, Good: -1, Bad: -1, Threshold: -1}}
	for _, n := range []int{math.MinInt, -1, 4, 41, math.MaxInt} {
		list = append(list, usedRate(n, n, n, n), impl.RateState{Rate: n, Good: n, Bad: n, Threshold: n, Probing: true})
	}
	for _, threshold := range rateThresholds {
		list = append(list, impl.RateState{Rate: 2, Good: 1, Bad: 1, Threshold: threshold, Probing: true})
	}
	for _, s := range validRateStates() {
		list = append(list, spoiltRateStates(s)...)
	}
	return list
}

func expectNewRate(t *testing.T, rate int, want int) {
	t.Helper()
	if got := impl.NewRateState(rate); got != usedRate(want, 0, 0, 10) {
		t.Errorf("NewRateState(%d) is %+v", rate, got)
	}
}

func expectValidRate(t *testing.T, s impl.RateState, want bool) {
	t.Helper()
	if got := impl.IsValidRateState(s); got != want {
		t.Errorf("IsValidRateState(%+v) is %v", s, got)
	}
}

func expectSuccess(t *testing.T, s impl.RateState, want impl.RateState) {
	t.Helper()
	if got := impl.RateSucceeded(s); got != want {
		t.Errorf("RateSucceeded(%+v) is %+v, not %+v", s, got, want)
	}
	expectValidRate(t, s, true)
	expectValidRate(t, want, true)
}

func expectFailure(t *testing.T, s impl.RateState, want impl.RateState) {
	t.Helper()
	if got := impl.RateFailed(s); got != want {
		t.Errorf("RateFailed(%+v) is %+v, not %+v", s, got, want)
	}
	expectValidRate(t, s, true)
	expectValidRate(t, want, true)
}

func expectOutcomes(t *testing.T, s impl.RateState, outcomes []bool, want impl.RateState) {
	t.Helper()
	if got := impl.ApplyOutcomes(s, outcomes); got != want {
		t.Errorf("ApplyOutcomes(%+v, %v) is %+v, not %+v", s, outcomes, got, want)
	}
}

func expectFastest(t *testing.T, bytes int, quality int, want int) {
	t.Helper()
	if got := impl.FastestRate(bytes, quality); got != want {
		t.Errorf("FastestRate(%d, %d) is %d, not %d", bytes, quality, got, want)
	}
}

func TestConstantsOfRateAdaptation(t *testing.T) {
	if impl.MinThreshold != 10 || impl.MaxThresholdUp != 40 || impl.DownFailures != 2 {
		t.Error(impl.MinThreshold, impl.MaxThresholdUp, impl.DownFailures)
	}
}

func TestNewRateState(t *testing.T) {
	for rate := range 4 {
		expectNewRate(t, rate, rate)
		expectValidRate(t, impl.NewRateState(rate), true)
	}
	for _, rate := range notRateIndices {
		expectNewRate(t, rate, 0)
	}
	for _, rate := range []int{-1, 4, math.MinInt, math.MaxInt} {
		expectNewRate(t, rate, 0)
		expectValidRate(t, impl.NewRateState(rate), true)
	}
}

func TestIsValidRateStateOfRates(t *testing.T) {
	for rate := range 4 {
		for _, threshold := range rateThresholds {
			expectValidRate(t, usedRate(rate, 0, 0, threshold), true)
			expectValidRate(t, usedRate(rate, 3, 0, threshold), true)
			expectValidRate(t, usedRate(rate, 0, 1, threshold), true)
			expectValidRate(t, triedRate(rate, threshold), true)
		}
	}
	for _, rate := range notRateIndices {
		expectValidRate(t, usedRate(rate, 0, 0, 10), false)
		expectValidRate(t, usedRate(rate, 20, 0, 20), false)
		expectValidRate(t, usedRate(rate, 0, 1, 40), false)
		expectValidRate(t, triedRate(rate, 10), false)
	}
}

func TestIsValidRateStateOfThresholds(t *testing.T) {
	for _, c := range []struct {
		threshold int
		want      bool
	}{
		{0, false}, {9, false}, {10, true}, {11, false}, {19, false}, {20, true}, {21, false}, {39, false}, {40, true}, {41, false}, {80, false},
		{-10, false}, {1, false}, {5, false}, {15, false}, {30, false}, {50, false}, {math.MinInt, false}, {math.MaxInt, false},
	} {
		expectValidRate(t, usedRate(0, 0, 0, c.threshold), c.want)
		expectValidRate(t, usedRate(3, 5, 0, c.threshold), c.want)
		expectValidRate(t, usedRate(1, 0, 1, c.threshold), c.want)
		expectValidRate(t, triedRate(2, c.threshold), c.want)
	}
}

func TestIsValidRateStateOfSuccesses(t *testing.T) {
	for rate := range 4 {
		for _, threshold := range rateThresholds {
			for good := -3; good <= 100; good++ {
				expectValidRate(t, usedRate(rate, good, 0, threshold), 0 <= good && good <= threshold)
			}
			for _, good := range farGoods {
				expectValidRate(t, usedRate(rate, good, 0, threshold), false)
				expectValidRate(t, usedRate(rate, good, 1, threshold), false)
			}
		}
	}
	for _, c := range []struct {
		good, threshold int
		want            bool
	}{{10, 10, true}, {11, 10, false}, {20, 20, true}, {21, 20, false}, {40, 40, true}, {41, 40, false}} {
		expectValidRate(t, usedRate(1, c.good, 0, c.threshold), c.want)
		expectValidRate(t, usedRate(3, c.good, 0, c.threshold), c.want)
	}
}

func TestIsValidRateStateOfFailures(t *testing.T) {
	for rate := range 4 {
		for _, threshold := range rateThresholds {
			expectValidRate(t, usedRate(rate, 0, 0, threshold), true)
			expectValidRate(t, usedRate(rate, 0, 1, threshold), true)
			for _, bad := range notBads {
				expectValidRate(t, usedRate(rate, 0, bad, threshold), false)
				expectValidRate(t, usedRate(rate, 4, bad, threshold), false)
			}
		}
	}
}

func TestIsValidRateStateOfBothOutcomes(t *testing.T) {
	for rate := range 4 {
		for _, threshold := range rateThresholds {
			for good := 1; good <= threshold; good++ {
				expectValidRate(t, usedRate(rate, good, 0, threshold), true)
				expectValidRate(t, usedRate(rate, good, 1, threshold), false)
			}
		}
	}
	// Numbers of which one makes up for the other.
	for _, c := range [][2]int{{1, -1}, {-1, 1}, {2, -2}, {-2, 2}, {10, -10}, {math.MinInt, math.MinInt}, {math.MinInt, math.MaxInt}, {math.MaxInt, math.MinInt}, {math.MaxInt, 1}} {
		expectValidRate(t, usedRate(1, c[0], c[1], 10), false)
		expectValidRate(t, impl.RateState{Rate: 1, Good: c[0], Bad: c[1], Threshold: 10, Probing: true}, false)
	}
}

func TestIsValidRateStateOfProbing(t *testing.T) {
	for rate := range 4 {
		for _, threshold := range rateThresholds {
			expectValidRate(t, triedRate(rate, threshold), true)
			for good := range threshold + 2 {
				for bad := range 3 {
					s := impl.RateState{Rate: rate, Good: good, Bad: bad, Threshold: threshold, Probing: true}
					expectValidRate(t, s, good == 0 && bad == 0)
				}
			}
		}
	}
}

// Each field alone makes a state invalid.
func TestIsValidRateStateOfSpoiltStates(t *testing.T) {
	for _, s := range invalidRateStates() {
		if impl.IsValidRateState(s) {
			t.Fatalf("%+v is valid", s)
		}
	}
}

func TestIsValidRateStateOfAllStates(t *testing.T) {
	valid, found := validRateSet(), 0
	for rate := -2; rate <= 5; rate++ {
		for good := -2; good <= 42; good++ {
			for bad := -2; bad <= 3; bad++ {
				for threshold := -1; threshold <= 81; threshold++ {
					for _, probing := range []bool{false, true} {
						s := impl.RateState{Rate: rate, Good: good, Bad: bad, Threshold: threshold, Probing: probing}
						if valid[s] {
							found++
						}
						expectValidRate(t, s, valid[s])
					}
				}
			}
		}
	}
	// Of each rate: 11, 21 and 41 numbers of successes, a failure and a probe with each threshold.
	if found != 4*(11+21+41+3*2) || found != len(valid) {
		t.Errorf("%d valid states", found)
	}
}

func TestRateSucceeded(t *testing.T) {
	for _, c := range [][2]impl.RateState{
		{usedRate(1, 0, 0, 10), usedRate(1, 1, 0, 10)},
		{usedRate(1, 1, 0, 10), usedRate(1, 2, 0, 10)},
		// one before the threshold and two before it
		{usedRate(1, 8, 0, 10), usedRate(1, 9, 0, 10)}, {usedRate(1, 9, 0, 10), triedRate(2, 10)},
		{usedRate(0, 18, 0, 20), usedRate(0, 19, 0, 20)}, {usedRate(0, 19, 0, 20), triedRate(1, 20)},
		{usedRate(2, 38, 0, 40), usedRate(2, 39, 0, 40)}, {usedRate(2, 39, 0, 40), triedRate(3, 40)},
		// the threshold of another state
		{usedRate(1, 9, 0, 20), usedRate(1, 10, 0, 20)}, {usedRate(1, 10, 0, 20), usedRate(1, 11, 0, 20)}, {usedRate(2, 19, 0, 40), usedRate(2, 20, 0, 40)},
		// at the threshold
		{usedRate(0, 10, 0, 10), triedRate(1, 10)}, {usedRate(1, 20, 0, 20), triedRate(2, 20)}, {usedRate(2, 40, 0, 40), triedRate(3, 40)},
		// at the highest rate
		{usedRate(3, 0, 0, 10), usedRate(3, 1, 0, 10)}, {usedRate(3, 8, 0, 10), usedRate(3, 9, 0, 10)}, {usedRate(3, 9, 0, 10), usedRate(3, 10, 0, 10)}, {usedRate(3, 10, 0, 10), usedRate(3, 10, 0, 10)},
		{usedRate(3, 19, 0, 20), usedRate(3, 20, 0, 20)}, {usedRate(3, 20, 0, 20), usedRate(3, 20, 0, 20)}, {usedRate(3, 39, 0, 40), usedRate(3, 40, 0, 40)}, {usedRate(3, 40, 0, 40), usedRate(3, 40, 0, 40)},
		// a probe that succeeds
		{triedRate(1, 10), usedRate(1, 1, 0, 10)}, {triedRate(2, 20), usedRate(2, 1, 0, 20)}, {triedRate(3, 40), usedRate(3, 1, 0, 40)}, {triedRate(0, 10), usedRate(0, 1, 0, 10)},
		// after a failure
		{usedRate(0, 0, 1, 10), usedRate(0, 1, 0, 10)}, {usedRate(2, 0, 1, 20), usedRate(2, 1, 0, 20)}, {usedRate(3, 0, 1, 40), usedRate(3, 1, 0, 40)},
	} {
		expectSuccess(t, c[0], c[1])
	}
}

func TestRateSucceededAroundThresholds(t *testing.T) {
	for rate := range 4 {
		for _, threshold := range rateThresholds {
			for good := range threshold - 1 {
				expectSuccess(t, usedRate(rate, good, 0, threshold), usedRate(rate, good+1, 0, threshold))
			}
			after := triedRate(rate+1, threshold)
			if rate == 3 {
				after = usedRate(3, threshold, 0, threshold)
			}
			expectSuccess(t, usedRate(rate, threshold-1, 0, threshold), after)
			expectSuccess(t, usedRate(rate, threshold, 0, threshold), after)
			expectSuccess(t, triedRate(rate, threshold), usedRate(rate, 1, 0, threshold))
			expectSuccess(t, usedRate(rate, 0, 1, threshold), usedRate(rate, 1, 0, threshold))
		}
	}
}

func TestRateFailed(t *testing.T) {
	for _, c := range [][2]impl.RateState{
		// a probe that fails
		{triedRate(1, 10), usedRate(0, 0, 0, 20)}, {triedRate(2, 10), usedRate(1, 0, 0, 20)}, {triedRate(3, 10), usedRate(2, 0, 0, 20)},
		{triedRate(1, 20), usedRate(0, 0, 0, 40)}, {triedRate(2, 20), usedRate(1, 0, 0, 40)}, {triedRate(3, 20), usedRate(2, 0, 0, 40)},
		{triedRate(1, 40), usedRate(0, 0, 0, 40)}, {triedRate(2, 40), usedRate(1, 0, 0, 40)}, {triedRate(3, 40), usedRate(2, 0, 0, 40)},
		// a probe of the lowest rate was none
		{triedRate(0, 10), usedRate(0, 0, 1, 10)}, {triedRate(0, 20), usedRate(0, 0, 1, 20)}, {triedRate(0, 40), usedRate(0, 0, 1, 40)},
		// the first failure
		{usedRate(0, 0, 0, 10), usedRate(0, 0, 1, 10)}, {usedRate(1, 0, 0, 20), usedRate(1, 0, 1, 20)}, {usedRate(3, 0, 0, 40), usedRate(3, 0, 1, 40)},
		{usedRate(0, 1, 0, 10), usedRate(0, 0, 1, 10)}, {usedRate(2, 9, 0, 10), usedRate(2, 0, 1, 10)}, {usedRate(1, 39, 0, 40), usedRate(1, 0, 1, 40)},
		{usedRate(3, 10, 0, 10), usedRate(3, 0, 1, 10)}, {usedRate(3, 40, 0, 40), usedRate(3, 0, 1, 40)},
		// the second one
		{usedRate(1, 0, 1, 10), usedRate(0, 0, 0, 10)}, {usedRate(2, 0, 1, 10), usedRate(1, 0, 0, 10)}, {usedRate(3, 0, 1, 10), usedRate(2, 0, 0, 10)},
		{usedRate(1, 0, 1, 20), usedRate(0, 0, 0, 10)}, {usedRate(2, 0, 1, 20), usedRate(1, 0, 0, 10)}, {usedRate(3, 0, 1, 20), usedRate(2, 0, 0, 10)},
		{usedRate(1, 0, 1, 40), usedRate(0, 0, 0, 10)}, {usedRate(2, 0, 1, 40), usedRate(1, 0, 0, 10)}, {usedRate(3, 0, 1, 40), usedRate(2, 0, 0, 10)},
		// the second one at the lowest rate
		{usedRate(0, 0, 1, 10), usedRate(0, 0, 0, 10)}, {usedRate(0, 0, 1, 20), usedRate(0, 0, 0, 10)}, {usedRate(0, 0, 1, 40), usedRate(0, 0, 0, 10)},
	} {
		expectFailure(t, c[0], c[1])
	}
}

func TestRateFailedAfterSuccesses(t *testing.T) {
	for rate := range 4 {
		for _, threshold := range rateThresholds {
			for good := range threshold + 1 {
				expectFailure(t, usedRate(rate, good, 0, threshold), usedRate(rate, 0, 1, threshold))
			}
		}
	}
}

func TestOutcomesOfAllStates(t *testing.T) {
	for _, s := range validRateStates() {
		expectSuccess(t, s, successReference(s))
		expectFailure(t, s, failureReference(s))
		for _, outcomes := range [][]bool{{true}, {false}, {true, true}, {true, false}, {false, true}, {false, false}} {
			expectOutcomes(t, s, outcomes, outcomesReference(s, outcomes))
		}
	}
}

func TestOutcomesOfInvalidStates(t *testing.T) {
	for _, s := range invalidRateStates() {
		succeeded, failed := impl.RateSucceeded(s), impl.RateFailed(s)
		if succeeded != s || failed != s {
			t.Fatalf("outcomes of the invalid state %+v are %+v and %+v", s, succeeded, failed)
		}
		for _, outcomes := range [][]bool{nil, {}, {true}, {false}, {false, false, true}, {true, false, true}} {
			expectOutcomes(t, s, outcomes, s)
		}
	}
	for _, s := range []impl.RateState{{}, usedRate(1, 1, 1, 10), usedRate(1, 9, 0, 11), {Rate: 2, Good: 9, Threshold: 10, Probing: true}, triedRate(4, 10), triedRate(-1, 10)} {
		expectOutcomes(t, s, rowOf(true, 100), s)
		expectOutcomes(t, s, rowOf(false, 100), s)
	}
}

func TestApplyOutcomes(t *testing.T) {
	for _, s := range validRateStates() {
		expectOutcomes(t, s, nil, s)
		expectOutcomes(t, s, []bool{}, s)
	}
	for _, c := range []struct {
		s        impl.RateState
		outcomes string
		want     impl.RateState
	}{
		{usedRate(1, 0, 0, 10), "+", usedRate(1, 1, 0, 10)},
		{usedRate(1, 0, 0, 10), "-", usedRate(1, 0, 1, 10)},
		{usedRate(1, 0, 0, 10), "+-", usedRate(1, 0, 1, 10)},
		{usedRate(1, 0, 0, 10), "-+", usedRate(1, 1, 0, 10)},
		{usedRate(1, 0, 0, 10), "-+-+-", usedRate(1, 0, 1, 10)},
		{usedRate(1, 0, 0, 10), "--", usedRate(0, 0, 0, 10)},
		{usedRate(1, 0, 0, 10), "--------", usedRate(0, 0, 0, 10)},
		{usedRate(3, 0, 0, 10), "-------", usedRate(0, 0, 1, 10)},
		{usedRate(1, 0, 0, 10), "++++++++++", triedRate(2, 10)},
		{usedRate(1, 0, 0, 10), "+++++-+++++", usedRate(1, 5, 0, 10)},
		{usedRate(1, 0, 0, 10), "+++++-++++++++++", triedRate(2, 10)},
		// the probe succeeds, and two failures bring the rate back
		{usedRate(1, 0, 0, 10), "+++++++++++--", usedRate(1, 0, 0, 10)},
		// the probe fails, and 20 successes are needed for the next one
		{usedRate(1, 0, 0, 10), "++++++++++-", usedRate(1, 0, 0, 20)},
		{usedRate(1, 0, 0, 10), "++++++++++-+++++++++++++++++++", usedRate(1, 19, 0, 20)},
		{usedRate(1, 0, 0, 10), "++++++++++-++++++++++++++++++++", triedRate(2, 20)},
		// the failure after the failed probe is the first one
		{usedRate(1, 0, 0, 10), "++++++++++--", usedRate(1, 0, 1, 20)},
		{usedRate(1, 0, 0, 10), "++++++++++---", usedRate(0, 0, 0, 10)},
		{usedRate(1, 0, 0, 10), "++++++++++--+", usedRate(1, 1, 0, 20)},
		// a probe that succeeds leaves the threshold as it is
		{usedRate(1, 0, 0, 10), "++++++++++-+++++++++++++++++++++", usedRate(2, 1, 0, 20)},
		{usedRate(1, 0, 0, 10), "++++++++++-+++++++++++++++++++++--", usedRate(1, 0, 0, 10)},
	} {
		expectOutcomes(t, c.s, outcomesOf(c.outcomes), c.want)
	}
}

func TestApplyOutcomesOfLongRows(t *testing.T) {
	for _, s := range validRateStates() {
		for _, count := range []int{1, 2, 9, 10, 11, 40, 41, 121, 1000} {
			expectOutcomes(t, s, rowOf(true, count), outcomesReference(s, rowOf(true, count)))
			expectOutcomes(t, s, rowOf(false, count), outcomesReference(s, rowOf(false, count)))
		}
		expectOutcomes(t, s, rowOf(true, 1000), usedRate(3, s.Threshold, 0, s.Threshold))
		if failed := impl.ApplyOutcomes(s, rowOf(false, 1000)); failed.Rate != 0 || failed.Good != 0 || failed.Probing || failed.Threshold != 10 {
			t.Errorf("after 1000 failures, %+v is %+v", s, failed)
		}
	}
	// The success of a probe is the first of those that lead to the next rate.
	for count, want := range map[int]impl.RateState{
		9: usedRate(0, 9, 0, 10), 10: triedRate(1, 10), 11: usedRate(1, 1, 0, 10), 19: usedRate(1, 9, 0, 10), 20: triedRate(2, 10),
		29: usedRate(2, 9, 0, 10), 30: triedRate(3, 10), 31: usedRate(3, 1, 0, 10), 39: usedRate(3, 9, 0, 10), 40: usedRate(3, 10, 0, 10), 41: usedRate(3, 10, 0, 10),
	} {
		expectOutcomes(t, impl.NewRateState(0), rowOf(true, count), want)
	}
	for count, want := range []impl.RateState{
		usedRate(3, 0, 0, 10), usedRate(3, 0, 1, 10), usedRate(2, 0, 0, 10), usedRate(2, 0, 1, 10), usedRate(1, 0, 0, 10),
		usedRate(1, 0, 1, 10), usedRate(0, 0, 0, 10), usedRate(0, 0, 1, 10), usedRate(0, 0, 0, 10), usedRate(0, 0, 1, 10),
	} {
		expectOutcomes(t, impl.NewRateState(3), rowOf(false, count), want)
	}
}

// The rate rises to the highest one, whose probe fails time and again until it succeeds.
func TestApplyOutcomesOfProbes(t *testing.T) {
	s, outcomes := impl.NewRateState(0), rowOf(true, 30)
	expectOutcomes(t, s, outcomes, triedRate(3, 10))
	for _, threshold := range []int{20, 40, 40, 40} {
		outcomes = append(outcomes, false)
		expectOutcomes(t, s, outcomes, usedRate(2, 0, 0, threshold))
		outcomes = append(outcomes, rowOf(true, threshold-1)...)
		expectOutcomes(t, s, outcomes, usedRate(2, threshold-1, 0, threshold))
		outcomes = append(outcomes, true)
		expectOutcomes(t, s, outcomes, triedRate(3, threshold))
	}
	expectOutcomes(t, s, append(outcomes, true), usedRate(3, 1, 0, 40))
	expectOutcomes(t, s, append(outcomes, rowOf(true, 41)...), usedRate(3, 40, 0, 40))
	expectOutcomes(t, s, append(outcomes, true, false, false), usedRate(2, 0, 0, 10))
	expectOutcomes(t, s, append(outcomes, false, false, false), usedRate(1, 0, 0, 10))
}

// All rows of up to 12 outcomes, of states from which each of them may change the rate.
func TestApplyOutcomesOfAllRows(t *testing.T) {
	states := []impl.RateState{
		impl.NewRateState(0), impl.NewRateState(3), usedRate(1, 6, 0, 10), usedRate(2, 9, 0, 10), usedRate(2, 18, 0, 20), usedRate(2, 37, 0, 40), usedRate(3, 38, 0, 40),
		usedRate(0, 0, 1, 20), usedRate(3, 0, 1, 40), triedRate(0, 20), triedRate(1, 10), triedRate(3, 20), triedRate(2, 40),
	}
	for count := range 13 {
		for bits := range 1 << count {
			outcomes := make([]bool, count)
			for i := range outcomes {
				outcomes[i] = bits>>i&1 == 1
			}
			for _, s := range states {
				expectOutcomes(t, s, outcomes, outcomesReference(s, outcomes))
			}
		}
	}
}

// Outcomes may be applied in any parts.
func TestApplyOutcomesInParts(t *testing.T) {
	random := rand.New(rand.NewPCG(23, 1))
	for range 300 {
		s := validRateStates()[random.IntN(len(validRateStates()))]
		outcomes := randomOutcomes(random, 60, 40+random.IntN(60))
		want := outcomesReference(s, outcomes)
		for cut := range outcomes {
			expectOutcomes(t, impl.ApplyOutcomes(s, outcomes[:cut]), outcomes[cut:], want)
		}
		for _, succeeded := range outcomes {
			if succeeded {
				s = impl.RateSucceeded(s)
			} else {
				s = impl.RateFailed(s)
			}
		}
		if s != want {
			t.Errorf("one by one, the outcomes %v lead to %+v, not to %+v", outcomes, s, want)
		}
	}
}

// From every state, as many successes as are missing bring the next rate, and not one less.
func TestRateRisesAfterSuccesses(t *testing.T) {
	for _, s := range validRateStates() {
		missing := max(s.Threshold-s.Good, 1)
		if before := impl.ApplyOutcomes(s, rowOf(true, missing-1)); before.Rate != s.Rate {
			t.Errorf("%+v has risen to %+v after %d successes", s, before, missing-1)
		}
		after := impl.ApplyOutcomes(s, rowOf(true, missing))
		if after.Rate != min(s.Rate+1, 3) || after.Probing != (s.Rate < 3) || after.Threshold != s.Threshold {
			t.Errorf("%+v has become %+v after %d successes", s, after, missing)
		}
		for rate := s.Rate; rate < 3; rate++ {
			if s = impl.ApplyOutcomes(s, rowOf(true, 40)); s.Rate <= rate {
				t.Errorf("40 successes lead from rate %d to %+v", rate, s)
			}
		}
	}
}

// From every state, two failures bring a lower rate, and a single one does so only after a probe.
func TestRateFallsAfterFailures(t *testing.T) {
	for _, s := range validRateStates() {
		first := impl.RateFailed(s)
		if (first.Rate < s.Rate) != (s.Rate > 0 && (s.Probing || s.Bad == 1)) {
			t.Errorf("a failure leads from %+v to %+v", s, first)
		}
		if second := impl.RateFailed(first); s.Rate > 0 && second.Rate != s.Rate-1 {
			t.Errorf("two failures lead from %+v to %+v", s, second)
		}
		// Of two other failures, a success in between makes each the first one.
		mixed := impl.ApplyOutcomes(s, outcomesOf("+-+-+-"))
		if s.Good+1 < s.Threshold && mixed != usedRate(s.Rate, 0, 1, s.Threshold) {
			t.Errorf("failures that are not consecutive lead from %+v to %+v", s, mixed)
		}
		if last := impl.ApplyOutcomes(s, rowOf(false, 7)); last.Rate != 0 {
			t.Errorf("7 failures lead from %+v to %+v", s, last)
		}
	}
}

// Whatever the threshold, a probe that fails at once returns to the rate from which it came, and the next one takes longer.
func TestFailedProbesReturn(t *testing.T) {
	for rate := range 3 {
		for _, threshold := range rateThresholds {
			s := usedRate(rate, 0, 0, threshold)
			for _, next := range []int{min(2*threshold, 40), min(4*threshold, 40), 40, 40} {
				probe := impl.ApplyOutcomes(s, rowOf(true, s.Threshold))
				if probe != triedRate(rate+1, s.Threshold) {
					t.Errorf("%d successes lead from %+v to %+v", s.Threshold, s, probe)
				}
				s = impl.RateFailed(probe)
				if s != usedRate(rate, 0, 0, next) {
					t.Errorf("the failed probe %+v leads to %+v", probe, s)
				}
			}
		}
	}
}

// courseOfRates is a course of outcomes, of which it remembers where the last probe came from.
type courseOfRates struct {
	s     impl.RateState
	from  int
	valid map[impl.RateState]bool
}

// step applies an outcome, and checks what it may change.
func (c *courseOfRates) step(t *testing.T, succeeded bool) {
	t.Helper()
	before := c.s
	c.s = impl.ApplyOutcomes(before, []bool{succeeded})
	change := c.s.Rate - before.Rate
	switch {
	case !impl.IsValidRateState(c.s) || !c.valid[c.s]:
		t.Errorf("%+v becomes the invalid state %+v", before, c.s)
	case c.s.Rate < 0 || c.s.Rate > 3 || succeeded && change != 0 && change != 1 || !succeeded && change != 0 && change != -1:
		t.Errorf("%+v becomes %+v", before, c.s)
	case c.s.Probing != (change == 1):
		t.Errorf("%+v becomes %+v, which is a probe just after the rate has risen", before, c.s)
	case before.Probing && !succeeded && (c.s.Rate != c.from || c.s.Threshold != min(2*before.Threshold, 40)):
		t.Errorf("the probe %+v of rate %d becomes %+v", before, c.from, c.s)
	case succeeded && c.s.Threshold != before.Threshold:
		t.Errorf("%+v becomes %+v after a success", before, c.s)
	}
	if change == 1 {
		c.from = before.Rate
	}
}

// The outcomes of probes are worse than the others, so that all thresholds occur.
func TestRateChangesByOneStep(t *testing.T) {
	random := rand.New(rand.NewPCG(23, 2))
	reached := map[impl.RateState]bool{}
	for _, percent := range []int{0, 10, 50, 80, 90, 95, 97, 99, 100} {
		for first := -1; first <= 4; first++ {
			c := courseOfRates{s: impl.NewRateState(first), valid: validRateSet()}
			for frame := range 1500 {
				succeeds := percent
				if c.s.Probing {
					succeeds = percent * (frame / 500) / 2
				}
				c.step(t, random.IntN(100) < succeeds)
				reached[c.s] = true
			}
		}
	}
	if len(reached) < 250 {
		t.Errorf("the courses reach only %d states", len(reached))
	}
}

// The states that outcomes lead to from new ones: probes are above the lowest rate, and only the highest rate keeps enough successes.
func TestStatesThatOutcomesReach(t *testing.T) {
	reached := map[impl.RateState]bool{}
	waiting := []impl.RateState{}
	add := func(s impl.RateState) {
		if !reached[s] {
			reached[s] = true
			waiting = append(waiting, s)
		}
	}
	for rate := range 4 {
		add(impl.NewRateState(rate))
	}
	for len(waiting) > 0 && len(reached) < 1000 {
		s := waiting[0]
		waiting = waiting[1:]
		add(impl.RateSucceeded(s))
		add(impl.RateFailed(s))
	}
	for _, s := range validRateStates() {
		isReset := s == usedRate(3, 0, 0, s.Threshold) && s.Threshold != 10
		isFull := s.Good == s.Threshold && s.Rate < 3
		if want := !isReset && !isFull && (s.Rate > 0 || !s.Probing); reached[s] != want {
			t.Errorf("whether outcomes lead to %+v: %v", s, reached[s])
		}
		delete(reached, s)
	}
	if len(reached) > 0 {
		t.Errorf("outcomes lead to invalid states: %v", reached)
	}
}

// Where frames arrive at some rate and at none above it, the rate comes to stay there but for probes, of which there is one in 41 frames at last.
func TestRateFindsTheHighestUsableOne(t *testing.T) {
	for usable := range 4 {
		for _, s := range validRateStates() {
			failures := 0
			for frame := range 800 {
				succeeded := s.Rate <= usable
				s = impl.ApplyOutcomes(s, []bool{succeeded})
				if frame >= 390 && (s.Rate < usable || s.Rate > usable && !s.Probing) {
					t.Fatalf("the usable rate %d has become %+v", usable, s)
				}
				if frame >= 390 && !succeeded {
					failures++
				}
			}
			if usable == 3 && failures != 0 || usable < 3 && failures != 10 {
				t.Errorf("%d of the last 410 frames fail with the usable rate %d", failures, usable)
			}
		}
	}
}

// Over a channel of some quality, the rate is mostly between the highest one that delivers all frames and the highest one that delivers any.
func TestRateOverChannels(t *testing.T) {
	random := rand.New(rand.NewPCG(23, 3))
	for quality := range 101 {
		s, used := impl.NewRateState(quality%4), [4]int{}
		for range 4000 {
			used[s.Rate]++
			s = impl.ApplyOutcomes(s, []bool{impl.FrameDelivered(s.Rate, quality, random.IntN(100))})
		}
		between := 0
		for rate := max(impl.HighestRate(quality-10), 0); rate <= max(impl.HighestRate(quality), 0); rate++ {
			between += used[rate]
		}
		if between < 3600 {
			t.Errorf("with the quality %d, the rates are used %v times", quality, used)
		}
	}
}

func TestFastestRate(t *testing.T) {
	for _, c := range [][3]int{
		{20, 30, 0}, {20, 60, 2}, {20, 5, -1},
		// no rate, and the lowest one alone
		{20, 0, -1}, {20, 9, -1}, {20, 10, 0}, {20, 29, 0}, {0, 10, 0}, {1000000000000, 10, 0}, {1000000000000, 29, 0},
		// 7 slots of rate 0 and 10, 10, 9, 8, 8, 7, 7, 6 slots of rate 1
		{20, 31, 0}, {20, 32, 0}, {20, 33, 0}, {20, 34, 0}, {20, 35, 0}, {20, 36, 0}, {20, 37, 1}, {20, 40, 1},
		// 5 slots of rate 1 and 8, 8, 7, 7, 6, 6 and then 5 slots of rate 2, and 4 from the quality 60 on
		{20, 50, 1}, {20, 55, 1}, {20, 56, 1}, {20, 57, 1}, {20, 58, 1}, {20, 59, 1},
		// 4 slots of rate 2 and 6, 6, 5, 5, 5 and then 4 slots of rate 3, and 3 from the quality 90 on
		{20, 80, 2}, {20, 85, 2}, {20, 89, 2}, {20, 90, 3}, {20, 100, 3},
		// as many slots of several rates, down to 2 of every rate
		{0, 20, 0}, {0, 40, 0}, {0, 60, 0}, {0, 90, 0}, {0, 100, 0}, {1, 100, 0}, {4, 100, 0}, {5, 40, 1}, {5, 100, 1}, {8, 100, 1}, {9, 100, 2}, {12, 100, 2}, {13, 100, 3},
		// 3 slots of the rates 0 and 1, 3 of 1 and 2, 3 of 2 and 3
		{3, 40, 0}, {7, 60, 1}, {11, 90, 2}, {24, 90, 3}, {25, 90, 3}, {24, 60, 2}, {12, 60, 2}, {13, 60, 1}, {16, 60, 1}, {17, 60, 2},
		// the limits of bytes
		{100, 100, 3}, {101, 100, 3}, {120, 100, 3}, {121, 100, 3}, {100, 79, 2}, {100, 49, 1},
		{1000000000000, 100, 3}, {1000000000001, 100, -1}, {999999999999, 100, 3}, {1000000000000, 30, 0}, {1000000000000, 31, 1},
		{-1, 100, -1}, {-1, 10, -1}, {math.MinInt, 100, -1}, {math.MaxInt, 100, -1}, {math.MinInt, math.MinInt, -1}, {math.MaxInt, math.MaxInt, -1},
		// the limits of the quality
		{20, -1, -1}, {20, 101, -1}, {0, -1, -1}, {0, 101, -1}, {20, math.MinInt, -1}, {20, math.MaxInt, -1},
	} {
		expectFastest(t, c[0], c[1], c[2])
	}
}

func TestFastestRateAgainstReference(t *testing.T) {
	for _, bytes := range slices.Concat(byteCounts(), []int{-1, 1000000000001, math.MinInt, math.MaxInt}) {
		for quality := -1; quality <= 101; quality++ {
			expectFastest(t, bytes, quality, fastestReference(bytes, quality))
		}
	}
}

// One argument out of range suffices.
func TestFastestRateOutOfRange(t *testing.T) {
	for _, quality := range slices.Concat([]int{0, 10, 30, 50, 80, 100}, notQualities) {
		for _, bytes := range slices.Concat([]int{0, 1, 20, 1000000000000}, notByteCounts) {
			if slices.Contains(notQualities, quality) || slices.Contains(notByteCounts, bytes) {
				expectFastest(t, bytes, quality, -1)
			}
		}
	}
}

// No rate needs fewer slots than the fastest one, and no lower one as few.
func TestFastestRateIsLeastAndLowest(t *testing.T) {
	equals := 0
	for quality := range 101 {
		for bytes := range 130 {
			fastest := impl.FastestRate(bytes, quality)
			if (fastest < 0) != (impl.HighestRate(quality) < 0) || fastest > impl.HighestRate(quality) {
				t.Errorf("FastestRate(%d, %d) is %d", bytes, quality, fastest)
			}
			least := impl.ExpectedSlots(fastest, bytes, quality)
			for rate := 0; rate <= impl.HighestRate(quality); rate++ {
				slots := impl.ExpectedSlots(rate, bytes, quality)
				if slots < least || slots == least && rate < fastest {
					t.Errorf("FastestRate(%d, %d) is %d with %d slots, and rate %d needs %d", bytes, quality, fastest, least, rate, slots)
				}
				if slots == least && rate > fastest {
					equals++
				}
			}
		}
	}
	if equals < 1000 {
		t.Errorf("only %d rates are as fast as a lower one", equals)
	}
}

// ApplyOutcomes changes neither the outcomes nor what follows them in their memory.
func TestApplyOutcomesKeepsItsArguments(t *testing.T) {
	random := rand.New(rand.NewPCG(23, 4))
	for _, s := range slices.Concat(validRateStates(), []impl.RateState{{}, triedRate(4, 10), usedRate(1, 1, 1, 10)}) {
		for _, count := range []int{0, 1, 2, 10, 50} {
			for _, percent := range []int{0, 50, 95, 100} {
				whole := append(randomOutcomes(random, count, percent), outcomesOf("+-++-")...)
				want, state := slices.Clone(whole), s
				impl.ApplyOutcomes(state, whole[:count])
				if !slices.Equal(whole, want) || state != s {
					t.Fatalf("ApplyOutcomes(%+v, %v) changed its argument or its spare capacity: %v", s, want[:count], whole)
				}
			}
		}
	}
}

// The calls between two equal calls change nothing.
func TestRateStatesKeepNoState(t *testing.T) {
	states, rates := []impl.RateState{}, []int{}
	for range 2 {
		for _, s := range slices.Concat(validRateStates(), []impl.RateState{{}, triedRate(4, 10), usedRate(1, 1, 1, 10)}) {
			states = append(states, impl.RateSucceeded(s), impl.RateFailed(s), impl.NewRateState(s.Rate), impl.ApplyOutcomes(s, outcomesOf("+++--+")))
			rates = append(rates, impl.FastestRate(s.Good, 60+s.Threshold), impl.FastestRate(s.Threshold, 10*s.Rate+50))
		}
	}
	half, middle := len(states)/2, len(rates)/2
	if !slices.Equal(states[:half], states[half:]) || !slices.Equal(rates[:middle], rates[middle:]) {
		t.Error("answers differ from those to the same calls before")
	}
}
