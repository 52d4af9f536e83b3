package tests

import (
	"math"
	"math/rand"
	"slices"
	"testing"

	"loop.example/multipathtransport/impl"
)

// The fields of the sample estimates: the ends of their ranges, next to them,
// values that 8 or 4 divides, those next to these, and others.
var (
	rttTimes = []int{1, 2, 3, 7, 8, 9, 39, 40, 41, 100, 112, 499, 500, 997, 998, 999}
	smooths  = []int{8, 9, 14, 15, 16, 17, 23, 24, 319, 320, 321, 327, 328, 3999, 4000, 7983, 7984, 7991, 7992, 7993, 7998, 7999}
	varies   = []int{0, 1, 2, 3, 4, 5, 7, 8, 79, 80, 83, 84, 1998, 3991, 3992, 3995, 3996, 3998, 3999}
)

// noSamples are not samples. If they were not checked, some of them would
// overflow when a delay is subtracted.
var noSamples = append(outsideFrom(999), 0, -999, -1000, math.MinInt+1, math.MaxInt-1)

// noDelays are not delays. Less some of these, a sample would be another one.
var noDelays = append(outsideFrom(999), -3, -500, -998, -999, -1000, math.MinInt+1, math.MaxInt-1)

// noCounts are not counts of timeouts. Some of them would shift everything out.
var noCounts = append(outsideFrom(6), 7, 8, 9, 31, 32, 33, 56, 57, 62, 63, 64, 65, 70, 128, -6, -7, -58, -64)

func rtt(latest int, least int, smooth int, vary int) impl.Rtt {
	return impl.Rtt{Latest: latest, Least: least, Smooth: smooth, Vary: vary}
}

// inside returns the distinct values that are in the range low to high.
func inside(low int, high int, values ...int) []int {
	list := []int{}
	for _, n := range values {
		if low <= n && n <= high && !slices.Contains(list, n) {
			list = append(list, n)
		}
	}
	return list
}

// expectedRttValid checks each rule of the specification on its own.
func expectedRttValid(r impl.Rtt) bool {
	if r.Latest == 0 && r.Least == 0 && r.Smooth == 0 && r.Vary == 0 {
		return true
	}
	latest := 1 <= r.Latest && r.Latest <= 999
	least := 1 <= r.Least && r.Least <= r.Latest
	smooth := 8 <= r.Smooth && r.Smooth <= 7999
	vary := 0 <= r.Vary && r.Vary <= 3999
	return latest && least && smooth && vary
}

// expectedUpdate follows the sentences of the specification for valid arguments.
func expectedUpdate(r impl.Rtt, sample int, delay int) impl.Rtt {
	if r == (impl.Rtt{}) {
		return rtt(sample, sample, 8*sample, 2*sample)
	}
	least := r.Least
	if sample < least {
		least = sample
	}
	n := sample - delay
	if n < least {
		n = sample
	}
	difference := r.Smooth/8 - n
	if difference < 0 {
		difference = n - r.Smooth/8
	}
	return rtt(sample, least, r.Smooth-r.Smooth/8+n, r.Vary-r.Vary/4+difference)
}

// forEstimates calls check for valid estimates: the zero one, the combinations
// of the sample fields, and those of random runs.
func forEstimates(check func(r impl.Rtt)) {
	check(impl.Rtt{})
	for _, latest := range rttTimes {
		for _, least := range inside(1, latest, 1, 2, latest/2, latest-1, latest) {
			for _, smooth := range append(inside(8, 7999, 8*latest-1, 8*latest, 8*latest+7, 8*latest+8), smooths...) {
				for _, vary := range varies {
					check(rtt(latest, least, smooth, vary))
				}
			}
		}
	}
	random := rand.New(rand.NewSource(21))
	for range 1000 {
		latest := 1 + random.Intn(999)
		check(rtt(latest, 1+random.Intn(latest), 8+random.Intn(7992), random.Intn(4000)))
	}
}

// samplesNear returns samples: the ends of their range, and those next to the
// fields of r, some of them new minima.
func samplesNear(r impl.Rtt) []int {
	smoothed := r.Smooth / 8
	return inside(1, 999, 1, 2, r.Least-1, r.Least, r.Least+1, smoothed-1, smoothed, smoothed+1, r.Latest-1, r.Latest, r.Latest+1, 998, 999)
}

// delaysNear returns delays: the ends of their range, and those that leave of
// the sample nothing, the new Least, the smoothed value, or nearly so.
func delaysNear(r impl.Rtt, sample int) []int {
	least, smoothed := sample, r.Smooth/8
	if r != (impl.Rtt{}) {
		least = min(r.Least, sample)
	}
	return inside(0, 999, 0, 1, 2, sample-least-1, sample-least, sample-least+1, sample-smoothed-1, sample-smoothed, sample-smoothed+1,
		sample-1, sample, sample+1, sample+7, 998, 999)
}

// forUpdates calls check for valid arguments of RttUpdate.
func forUpdates(check func(r impl.Rtt, sample int, delay int)) {
	forEstimates(func(r impl.Rtt) {
		for _, sample := range samplesNear(r) {
			for _, delay := range delaysNear(r, sample) {
				check(r, sample, delay)
			}
		}
	})
}

// forRttRuns calls check for each step of random runs from the zero estimate
// on, in which samples are in a range of their own.
func forRttRuns(check func(r impl.Rtt, sample int, delay int)) {
	random := rand.New(rand.NewSource(2121))
	for range 500 {
		r, lowest := impl.Rtt{}, 1+random.Intn(999)
		spread, late := 1+random.Intn(1000-lowest), 1+random.Intn(1000)
		for range 100 {
			sample, delay := lowest+random.Intn(spread), random.Intn(late)
			check(r, sample, delay)
			r, _ = impl.RttUpdate(r, sample, delay)
		}
	}
}

// invalidEstimates returns estimates that are not valid: combinations of
// fields of which at least one is out of range, or not all are zero.
func invalidEstimates() []impl.Rtt {
	list := []impl.Rtt{}
	for _, latest := range []int{-1, 0, 1, 2, 40, 998, 999, 1000} {
		for _, least := range []int{-1, 0, 1, 2, 39, 40, 41, 998, 999, 1000} {
			for _, smooth := range []int{-320, -8, -1, 0, 1, 7, 8, 9, 320, 7992, 7999, 8000, 8001, 8007} {
				for _, vary := range []int{-80, -4, -1, 0, 1, 3, 80, 3996, 3999, 4000, 4003} {
					if r := rtt(latest, least, smooth, vary); !expectedRttValid(r) {
						list = append(list, r)
					}
				}
			}
		}
	}
	for _, n := range outsideFrom(999) {
		list = append(list, rtt(n, 1, 320, 80), rtt(n, n, 320, 80), rtt(40, n, 320, 80), rtt(999, n, 7992, 1998), rtt(n, 0, 0, 0), rtt(0, n, 0, 0))
	}
	for _, n := range outsideFrom(7999) {
		list = append(list, rtt(40, 40, n, 80), rtt(999, 1, n, 0), rtt(1, 1, n, 3999), rtt(0, 0, n, 0))
	}
	for _, n := range outsideFrom(3999) {
		list = append(list, rtt(40, 40, 320, n), rtt(999, 1, 7999, n), rtt(1, 1, 8, n), rtt(0, 0, 0, n))
	}
	return list
}

// updated returns the estimate after RttUpdate, and fails the test if there is none.
func updated(t *testing.T, r impl.Rtt, sample int, delay int) impl.Rtt {
	t.Helper()
	next, ok := impl.RttUpdate(r, sample, delay)
	if !ok {
		t.Fatalf("RttUpdate(%+v, %d, %d) failed", r, sample, delay)
	}
	return next
}

func expectUpdate(t *testing.T, r impl.Rtt, sample int, delay int, want impl.Rtt) {
	t.Helper()
	if next := updated(t, r, sample, delay); next != want {
		t.Fatalf("RttUpdate(%+v, %d, %d) returned %+v, want %+v", r, sample, delay, next, want)
	}
}

func expectNoUpdate(t *testing.T, r impl.Rtt, sample int, delay int) {
	t.Helper()
	if next, ok := impl.RttUpdate(r, sample, delay); ok || next != (impl.Rtt{}) {
		t.Fatalf("RttUpdate(%+v, %d, %d) returned %+v, %t", r, sample, delay, next, ok)
	}
}

func expectRttValid(t *testing.T, r impl.Rtt, want bool) {
	t.Helper()
	if impl.RttValid(r) != want {
		t.Fatalf("RttValid(%+v) returned %t", r, !want)
	}
}

func expectProbe(t *testing.T, r impl.Rtt, count int, want int) {
	t.Helper()
	if got := impl.RttProbe(r, count); got != want {
		t.Fatalf("RttProbe(%+v, %d) returned %d, want %d", r, count, got, want)
	}
}

func expectLossDelay(t *testing.T, r impl.Rtt, want int) {
	t.Helper()
	if got := impl.RttLossDelay(r); got != want {
		t.Fatalf("RttLossDelay(%+v) returned %d, want %d", r, got, want)
	}
}

func TestPromise78ValidExamples(t *testing.T) {
	for _, r := range []impl.Rtt{
		{}, rtt(40, 40, 320, 80), rtt(48, 40, 328, 68),
		// At the ends of all ranges.
		rtt(1, 1, 8, 0), rtt(1, 1, 7999, 3999), rtt(999, 1, 8, 3999), rtt(999, 999, 7999, 0), rtt(999, 999, 7992, 3996), rtt(999, 998, 15, 3),
	} {
		expectRttValid(t, r, true)
	}
	for _, r := range []impl.Rtt{
		// Least is above Latest.
		rtt(1, 2, 8, 0), rtt(40, 41, 320, 80), rtt(998, 999, 7992, 0),
		// One field is out of its range.
		rtt(0, 0, 320, 80), rtt(0, 1, 320, 80), rtt(-1, -1, 320, 80), rtt(1000, 40, 320, 80), rtt(1000, 1000, 320, 80), rtt(40, 0, 320, 80), rtt(40, -1, 320, 80),
		rtt(40, 40, 0, 80), rtt(40, 40, 7, 80), rtt(40, 40, -8, 80), rtt(40, 40, 8000, 80), rtt(40, 40, 320, -1), rtt(40, 40, 320, -3), rtt(40, 40, 320, 4000),
		// Only some fields are zero.
		rtt(1, 0, 0, 0), rtt(0, 1, 0, 0), rtt(0, 0, 8, 0), rtt(0, 0, 0, 1), rtt(0, 0, 8, 1), rtt(1, 1, 0, 0), rtt(1, 0, 8, 0), rtt(0, 1, 8, 1), rtt(1, 1, 0, 1),
	} {
		expectRttValid(t, r, false)
	}
}

func TestPromise78ValidEachField(t *testing.T) {
	for n := -10000; n <= 10000; n++ {
		for _, r := range []impl.Rtt{
			rtt(n, 1, 8, 0), rtt(n, 40, 320, 80), rtt(n, 999, 7999, 3999), rtt(n, n, 8, 3999), rtt(n, 0, 0, 0), rtt(n, n, n, n),
			rtt(1, n, 8, 0), rtt(40, n, 320, 80), rtt(998, n, 15, 7), rtt(999, n, 7999, 3999), rtt(0, n, 0, 0),
			rtt(1, 1, n, 0), rtt(40, 40, n, 80), rtt(999, 1, n, 3999), rtt(0, 0, n, 0), rtt(0, 0, n, n),
			rtt(1, 1, 8, n), rtt(40, 40, 320, n), rtt(999, 999, 7999, n), rtt(0, 0, 0, n),
		} {
			expectRttValid(t, r, expectedRttValid(r))
		}
	}
}

func TestPromise78ValidEstimates(t *testing.T) {
	forEstimates(func(r impl.Rtt) { expectRttValid(t, r, true) })
	for _, r := range invalidEstimates() {
		expectRttValid(t, r, false)
	}
}

func TestPromise78Updates(t *testing.T) {
	check := func(r impl.Rtt, sample int, delay int) {
		next := updated(t, r, sample, delay)
		expectRttValid(t, next, true)
		if !expectedRttValid(next) {
			t.Fatalf("RttUpdate(%+v, %d, %d) returned %+v, which is not valid", r, sample, delay, next)
		}
	}
	forUpdates(check)
	forRttRuns(check)
}

func TestPromise78UpdateExamples(t *testing.T) {
	first := rtt(40, 40, 320, 80)
	expectUpdate(t, first, 48, 0, rtt(48, 40, 328, 68))
	expectUpdate(t, first, 32, 0, rtt(32, 32, 312, 68))
	expectUpdate(t, first, 40, 0, rtt(40, 40, 320, 60))
	// The delay leaves more than Least, Least, less, nothing, and less than nothing.
	expectUpdate(t, first, 48, 7, rtt(48, 40, 321, 61))
	expectUpdate(t, first, 48, 8, rtt(48, 40, 320, 60))
	expectUpdate(t, first, 48, 9, rtt(48, 40, 328, 68))
	expectUpdate(t, first, 48, 47, rtt(48, 40, 328, 68))
	expectUpdate(t, first, 48, 48, rtt(48, 40, 328, 68))
	expectUpdate(t, first, 48, 49, rtt(48, 40, 328, 68))
	expectUpdate(t, first, 48, 999, rtt(48, 40, 328, 68))
	// Nothing is left of a new minimum, and of one that equals the old one.
	expectUpdate(t, first, 32, 1, rtt(32, 32, 312, 68))
	expectUpdate(t, first, 40, 1, rtt(40, 40, 320, 60))
	expectUpdate(t, rtt(50, 30, 320, 80), 32, 2, rtt(32, 30, 310, 70))
	expectUpdate(t, rtt(50, 30, 320, 80), 32, 3, rtt(32, 30, 312, 68))
	// 8 and 4 divide neither Smooth nor Vary.
	expectUpdate(t, rtt(40, 40, 327, 83), 50, 0, rtt(50, 40, 337, 73))
	expectUpdate(t, rtt(40, 40, 319, 79), 50, 0, rtt(50, 40, 330, 71))
}

func TestPromise78UpdateEdges(t *testing.T) {
	highest := rtt(999, 1, 7999, 3999)
	expectUpdate(t, highest, 999, 0, rtt(999, 1, 7999, 3000))
	expectUpdate(t, highest, 1, 0, rtt(1, 1, 7001, 3998))
	expectUpdate(t, highest, 999, 998, rtt(999, 1, 7001, 3998))
	expectUpdate(t, highest, 999, 999, rtt(999, 1, 7999, 3000))
	expectUpdate(t, rtt(999, 999, 7992, 3999), 999, 999, rtt(999, 999, 7992, 3000))
	lowest := rtt(1, 1, 8, 0)
	expectUpdate(t, lowest, 1, 0, rtt(1, 1, 8, 0))
	expectUpdate(t, lowest, 1, 999, rtt(1, 1, 8, 0))
	expectUpdate(t, lowest, 999, 0, rtt(999, 1, 1006, 998))
	expectUpdate(t, lowest, 999, 998, rtt(999, 1, 8, 0))
	expectUpdate(t, lowest, 999, 999, rtt(999, 1, 1006, 998))
	expectUpdate(t, rtt(1, 1, 15, 1), 1, 0, rtt(1, 1, 15, 1))
	expectUpdate(t, rtt(1, 1, 16, 4), 1, 0, rtt(1, 1, 15, 4))
}

func TestPromise78UpdateAll(t *testing.T) {
	check := func(r impl.Rtt, sample int, delay int) {
		expectUpdate(t, r, sample, delay, expectedUpdate(r, sample, delay))
	}
	forUpdates(check)
	forRttRuns(check)
	// All samples and delays.
	for sample := 1; sample <= 999; sample++ {
		for delay := 0; delay <= 999; delay++ {
			check(impl.Rtt{}, sample, delay)
			check(rtt(40, 40, 320, 80), sample, delay)
			check(rtt(998, 500, 7999, 3999), sample, delay)
		}
	}
}

func TestPromise78InvalidEstimate(t *testing.T) {
	for _, r := range invalidEstimates() {
		for _, sample := range []int{1, 40, 999} {
			for _, delay := range []int{0, 1, 40, 999} {
				expectNoUpdate(t, r, sample, delay)
			}
		}
		expectNoUpdate(t, r, 0, 0)
		expectNoUpdate(t, r, 1000, -1)
	}
}

func TestPromise78InvalidSampleOrDelay(t *testing.T) {
	estimates := []impl.Rtt{{}, rtt(40, 40, 320, 80), rtt(1, 1, 8, 0), rtt(999, 1, 7999, 3999), rtt(999, 999, 7992, 1998)}
	for _, r := range estimates {
		for _, wrong := range noSamples {
			for delay := 0; delay <= 999; delay++ {
				expectNoUpdate(t, r, wrong, delay)
			}
			for _, delay := range noDelays {
				expectNoUpdate(t, r, wrong, delay)
			}
		}
		for _, wrong := range noDelays {
			for sample := 1; sample <= 999; sample++ {
				expectNoUpdate(t, r, sample, wrong)
			}
		}
	}
}

// The result depends on the arguments alone, not on the calls before.
func TestPromise78SameAgain(t *testing.T) {
	forUpdates(func(r impl.Rtt, sample int, delay int) {
		first := updated(t, r, sample, delay)
		updated(t, first, 1, 0)
		expectUpdate(t, r, sample, delay, first)
	})
}

func TestPromise79LeastIsMinimum(t *testing.T) {
	forUpdates(func(r impl.Rtt, sample int, delay int) {
		want := sample
		if r != (impl.Rtt{}) && r.Least < sample {
			want = r.Least
		}
		next := updated(t, r, sample, delay)
		if next.Least != want || next.Latest != sample {
			t.Fatalf("RttUpdate(%+v, %d, %d) returned %+v", r, sample, delay, next)
		}
	})
}

func TestPromise79LeastOfRuns(t *testing.T) {
	seen := []int{}
	forRttRuns(func(r impl.Rtt, sample int, delay int) {
		if r == (impl.Rtt{}) {
			seen = nil
		}
		seen = append(seen, sample)
		if next := updated(t, r, sample, delay); next.Least != slices.Min(seen) {
			t.Fatalf("after the samples %v, Least is %d", seen, next.Least)
		}
	})
}

func TestPromise79LeastNextToSample(t *testing.T) {
	for least := 1; least <= 999; least++ {
		r := rtt(999, least, 8*least, 3)
		for _, sample := range inside(1, 999, least-1, least, least+1) {
			for _, delay := range []int{0, 1, 2, 999} {
				if next := updated(t, r, sample, delay); next.Least != min(least, sample) {
					t.Fatalf("RttUpdate(%+v, %d, %d) returned %+v", r, sample, delay, next)
				}
			}
		}
	}
}

func TestPromise80FirstSample(t *testing.T) {
	expectUpdate(t, impl.Rtt{}, 40, 5, rtt(40, 40, 320, 80))
	expectUpdate(t, impl.Rtt{}, 1, 0, rtt(1, 1, 8, 2))
	expectUpdate(t, impl.Rtt{}, 1, 999, rtt(1, 1, 8, 2))
	expectUpdate(t, impl.Rtt{}, 999, 0, rtt(999, 999, 7992, 1998))
	expectUpdate(t, impl.Rtt{}, 999, 999, rtt(999, 999, 7992, 1998))
	for sample := 1; sample <= 999; sample++ {
		for delay := 0; delay <= 999; delay++ {
			expectUpdate(t, impl.Rtt{}, sample, delay, rtt(sample, sample, 8*sample, 2*sample))
		}
	}
}

func TestPromise80InvalidArguments(t *testing.T) {
	for _, sample := range noSamples {
		expectNoUpdate(t, impl.Rtt{}, sample, 0)
		expectNoUpdate(t, impl.Rtt{}, sample, 999)
	}
	// Though it does not depend on the delay, that must be in range.
	for _, delay := range noDelays {
		expectNoUpdate(t, impl.Rtt{}, 1, delay)
		expectNoUpdate(t, impl.Rtt{}, 999, delay)
	}
}

func TestPromise81DelayThatIsTooLong(t *testing.T) {
	ignored, counted := 0, 0
	forUpdates(func(r impl.Rtt, sample int, delay int) {
		next, without := updated(t, r, sample, delay), updated(t, r, sample, 0)
		if sample-delay < next.Least {
			ignored++
			if next != without {
				t.Fatalf("RttUpdate(%+v, %d, %d) returned %+v, and with delay 0 %+v", r, sample, delay, next, without)
			}
		} else if delay > 0 {
			// Such a delay is not ignored.
			counted++
			if next.Smooth != without.Smooth-delay {
				t.Fatalf("RttUpdate(%+v, %d, %d) returned %+v, and with delay 0 %+v", r, sample, delay, next, without)
			}
		}
	})
	if ignored == 0 || counted == 0 {
		t.Errorf("%d delays are too long, and %d are not", ignored, counted)
	}
}

func TestPromise81AllDelays(t *testing.T) {
	for _, r := range []impl.Rtt{rtt(40, 40, 320, 80), rtt(48, 40, 327, 83), rtt(999, 1, 8, 0), rtt(999, 998, 7999, 3999), rtt(500, 250, 4000, 1)} {
		for sample := 1; sample <= 999; sample++ {
			without := updated(t, r, sample, 0)
			for delay := max(sample-min(r.Least, sample)+1, 0); delay <= 999; delay++ {
				expectUpdate(t, r, sample, delay, without)
			}
		}
	}
}

func TestPromise82SmoothMovesTowardsSample(t *testing.T) {
	forEstimates(func(r impl.Rtt) {
		if r == (impl.Rtt{}) {
			return
		}
		for _, sample := range samplesNear(r) {
			next := updated(t, r, sample, 0)
			if (next.Smooth > r.Smooth) != (sample > r.Smooth/8) || (next.Smooth < r.Smooth) != (sample < r.Smooth/8) {
				t.Fatalf("RttUpdate(%+v, %d, 0) returned %+v", r, sample, next)
			}
		}
	})
}

func TestPromise82AllSmooths(t *testing.T) {
	for smooth := 8; smooth <= 7999; smooth++ {
		r := rtt(999, 1, smooth, 7)
		for _, sample := range samplesNear(r) {
			next := updated(t, r, sample, 0)
			if next.Smooth-smooth != sample-smooth/8 {
				t.Fatalf("RttUpdate(%+v, %d, 0) returned %+v", r, sample, next)
			}
		}
	}
}

func TestPromise82EqualSamples(t *testing.T) {
	starts := []impl.Rtt{rtt(1, 1, 8, 0), rtt(40, 40, 320, 80), rtt(40, 1, 327, 83), rtt(999, 500, 4003, 1998), rtt(999, 1, 7999, 3999)}
	for _, start := range starts {
		for sample := 1; sample <= 999; sample++ {
			r := start
			for range 200 {
				r = updated(t, r, sample, 0)
			}
			// Smooth goes no further than it must; Vary goes as far as it can.
			smooth := min(max(start.Smooth, 8*sample), 8*sample+7)
			if r.Smooth != smooth || r.Vary > 3 || r.Latest != sample || r.Least != min(start.Least, sample) {
				t.Fatalf("after many samples of %d, %+v is %+v", sample, start, r)
			}
		}
	}
}

func TestPromise83SampleEqualsSmoothed(t *testing.T) {
	expectUpdate(t, rtt(50, 30, 320, 80), 40, 0, rtt(40, 30, 320, 60))
	expectUpdate(t, rtt(50, 30, 327, 83), 40, 0, rtt(40, 30, 327, 63))
	expectUpdate(t, rtt(50, 30, 327, 0), 40, 0, rtt(40, 30, 327, 0))
	expectUpdate(t, rtt(50, 30, 327, 3), 40, 0, rtt(40, 30, 327, 3))
	expectUpdate(t, rtt(50, 30, 327, 4), 40, 0, rtt(40, 30, 327, 3))
	expectUpdate(t, rtt(1, 1, 15, 3999), 1, 0, rtt(1, 1, 15, 3000))
	expectUpdate(t, rtt(1, 1, 7999, 3996), 999, 0, rtt(999, 1, 7999, 2997))
	forEstimates(func(r impl.Rtt) {
		if r == (impl.Rtt{}) {
			return
		}
		next := updated(t, r, r.Smooth/8, 0)
		if next.Smooth != r.Smooth || next.Vary != r.Vary-r.Vary/4 {
			t.Fatalf("RttUpdate(%+v, %d, 0) returned %+v", r, r.Smooth/8, next)
		}
	})
}

func TestPromise83AllSmoothsAndVaries(t *testing.T) {
	for smooth := 8; smooth <= 7999; smooth++ {
		for _, vary := range varies {
			expectUpdate(t, rtt(999, 1, smooth, vary), smooth/8, 0, rtt(smooth/8, 1, smooth, vary-vary/4))
		}
	}
	for vary := 0; vary <= 3999; vary++ {
		for _, smooth := range smooths {
			expectUpdate(t, rtt(999, 1, smooth, vary), smooth/8, 0, rtt(smooth/8, 1, smooth, vary-vary/4))
		}
	}
}

func TestPromise84ProbeExamples(t *testing.T) {
	first := rtt(40, 40, 320, 80)
	for count, want := range []int{120, 240, 480, 960, 1920, 3840, 7680} {
		expectProbe(t, first, count, want)
	}
	for count, want := range []int{100, 200, 400, 800, 1600, 3200, 6400} {
		expectProbe(t, impl.Rtt{}, count, want)
	}
	expectProbe(t, rtt(999, 1, 7999, 3999), 6, 4998*64)
	expectProbe(t, rtt(1, 1, 8, 0), 6, 128)
}

func TestPromise84ProbeDoubles(t *testing.T) {
	forEstimates(func(r impl.Rtt) {
		probe := impl.RttProbe(r, 0)
		if probe <= 0 {
			t.Fatalf("RttProbe(%+v, 0) returned %d", r, probe)
		}
		for count := 1; count <= 6; count++ {
			probe *= 2
			expectProbe(t, r, count, probe)
		}
	})
}

func TestPromise84InvalidCount(t *testing.T) {
	forEstimates(func(r impl.Rtt) {
		expectProbe(t, r, -1, 0)
		expectProbe(t, r, 7, 0)
	})
	for _, r := range []impl.Rtt{{}, rtt(40, 40, 320, 80), rtt(1, 1, 8, 0), rtt(999, 1, 7999, 3999)} {
		for _, count := range noCounts {
			expectProbe(t, r, count, 0)
		}
	}
}

func TestPromise84InvalidEstimate(t *testing.T) {
	for _, r := range invalidEstimates() {
		for count := -1; count <= 7; count++ {
			expectProbe(t, r, count, 0)
		}
		expectProbe(t, r, math.MinInt, 0)
		expectProbe(t, r, math.MaxInt, 0)
	}
}

func TestPromise85ProbeExamples(t *testing.T) {
	expectProbe(t, impl.Rtt{}, 0, 100)
	expectProbe(t, rtt(40, 40, 320, 80), 0, 120)
	// A variation of 0 counts as 1.
	expectProbe(t, rtt(40, 40, 320, 0), 0, 41)
	expectProbe(t, rtt(40, 40, 320, 1), 0, 41)
	expectProbe(t, rtt(40, 40, 320, 2), 0, 42)
	expectProbe(t, rtt(40, 40, 327, 0), 0, 41)
	expectProbe(t, rtt(40, 40, 328, 0), 0, 42)
	// At the ends of all ranges.
	expectProbe(t, rtt(1, 1, 8, 0), 0, 2)
	expectProbe(t, rtt(1, 1, 15, 3999), 0, 4000)
	expectProbe(t, rtt(999, 999, 7992, 0), 0, 1000)
	expectProbe(t, rtt(999, 1, 7999, 3999), 0, 4998)
}

func TestPromise85ProbeIsLater(t *testing.T) {
	forEstimates(func(r impl.Rtt) {
		if r == (impl.Rtt{}) {
			return
		}
		if impl.RttProbe(r, 0) <= r.Smooth/8 {
			t.Fatalf("RttProbe(%+v, 0) returned %d", r, impl.RttProbe(r, 0))
		}
	})
	for smooth := 8; smooth <= 7999; smooth++ {
		expectProbe(t, rtt(999, 1, smooth, 0), 0, smooth/8+1)
		for _, vary := range varies[1:] {
			expectProbe(t, rtt(999, 1, smooth, vary), 0, smooth/8+vary)
		}
	}
}

func TestPromise86LossDelayExamples(t *testing.T) {
	expectLossDelay(t, impl.Rtt{}, 112)
	expectLossDelay(t, rtt(100, 100, 800, 200), 112)
	expectLossDelay(t, rtt(40, 40, 320, 80), 45)
	// Latest is below, at and above the smoothed value.
	expectLossDelay(t, rtt(39, 39, 327, 80), 45)
	expectLossDelay(t, rtt(47, 40, 327, 80), 52)
	expectLossDelay(t, rtt(48, 40, 327, 80), 54)
	expectLossDelay(t, rtt(40, 40, 376, 80), 52)
	expectLossDelay(t, rtt(40, 40, 383, 80), 52)
	expectLossDelay(t, rtt(40, 40, 384, 80), 54)
	// At the ends of all ranges.
	expectLossDelay(t, rtt(1, 1, 8, 0), 1)
	expectLossDelay(t, rtt(7, 1, 8, 0), 7)
	expectLossDelay(t, rtt(8, 1, 8, 0), 9)
	expectLossDelay(t, rtt(999, 1, 8, 0), 1123)
	expectLossDelay(t, rtt(1, 1, 7999, 0), 1123)
	expectLossDelay(t, rtt(999, 999, 7992, 3999), 1123)
}

func TestPromise86AllLossDelays(t *testing.T) {
	for latest := 1; latest <= 999; latest++ {
		for smooth := 8; smooth <= 7999; smooth++ {
			r := rtt(latest, 1, smooth, 0)
			larger, delay := max(latest, smooth/8), impl.RttLossDelay(r)
			if delay < latest || delay < smooth/8 || 8*delay > 9*larger {
				t.Fatalf("RttLossDelay(%+v) returned %d", r, delay)
			}
			if delay != larger+larger/8 {
				t.Fatalf("RttLossDelay(%+v) returned %d, want %d", r, delay, larger+larger/8)
			}
		}
	}
}

func TestPromise86InvalidEstimate(t *testing.T) {
	for _, r := range invalidEstimates() {
		expectLossDelay(t, r, 0)
	}
}

func TestPromise87LossDelayWithoutVaryAndLeast(t *testing.T) {
	for _, latest := range rttTimes {
		for _, smooth := range append(inside(8, 7999, 8*latest-1, 8*latest, 8*latest+7, 8*latest+8), smooths...) {
			want := impl.RttLossDelay(rtt(latest, latest, smooth, 0))
			if want <= 0 {
				t.Fatalf("RttLossDelay(%+v) returned %d", rtt(latest, latest, smooth, 0), want)
			}
			for least := 1; least <= latest; least++ {
				expectLossDelay(t, rtt(latest, least, smooth, 0), want)
				expectLossDelay(t, rtt(latest, least, smooth, 3999), want)
			}
			for vary := 0; vary <= 3999; vary++ {
				expectLossDelay(t, rtt(latest, latest, smooth, vary), want)
				expectLossDelay(t, rtt(latest, 1, smooth, vary), want)
			}
		}
	}
}

func TestPromise88ProbeDoesNotDecrease(t *testing.T) {
	for _, latest := range []int{1, 40, 999} {
		for _, smooth := range smooths {
			for count := range 7 {
				last := impl.RttProbe(rtt(latest, 1, smooth, 0), count)
				for vary := 1; vary <= 3999; vary++ {
					probe := impl.RttProbe(rtt(latest, 1, smooth, vary), count)
					// It is the same for 0 and 1, and greater from there on.
					if probe < last || (probe == last) != (vary == 1) {
						t.Fatalf("RttProbe(%+v, %d) returned %d, and with a smaller Vary %d", rtt(latest, 1, smooth, vary), count, probe, last)
					}
					last = probe
				}
				expectProbe(t, rtt(latest, 1, smooth, 4000), count, 0)
			}
		}
	}
}

func TestPromise88ProbeWithoutLatestAndLeast(t *testing.T) {
	for _, smooth := range smooths {
		for _, vary := range varies {
			want := impl.RttProbe(rtt(1, 1, smooth, vary), 2)
			for _, latest := range rttTimes {
				expectProbe(t, rtt(latest, 1, smooth, vary), 2, want)
				expectProbe(t, rtt(latest, latest, smooth, vary), 2, want)
			}
		}
	}
}
