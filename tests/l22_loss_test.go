package tests

import (
	"math"
	"math/rand"
	"slices"
	"testing"

	"loop.example/multipathtransport/impl"
)

// noLossDelays are not ages at which a packet is lost. A delay below 1 would
// also lose packets that were sent just now.
var noLossDelays = append(outsideFrom(1998), 0, -998, -999, -1000, -1998, math.MinInt+999, math.MinInt+1)

// noPacketSizes are not sizes of a packet.
var noPacketSizes = append(outsideFrom(99), 0, -99, -100)

// ackCall is a call of LossAck.
type ackCall struct {
	state impl.Loss
	set   []impl.Range
	now   int
	delay int
}

// ackResult is what a successful call of LossAck returns.
type ackResult struct {
	state   impl.Loss
	arrived []int
	lost    []int
}

// timing is when a call of LossAck is made, and its delay.
type timing struct{ now, delay int }

func inFlight(number int, time int, size int) impl.SentPacket {
	return impl.SentPacket{Number: number, Time: time, Size: size}
}

func loss(next int, largest int, flight ...impl.SentPacket) impl.Loss {
	return impl.Loss{Next: next, Flight: flight, Largest: largest}
}

// lossAt returns a state with packets of these numbers in flight, all sent at
// the same time with size 10.
func lossAt(next int, largest int, time int, numbers ...int) impl.Loss {
	l := loss(next, largest)
	for _, n := range numbers {
		l.Flight = append(l.Flight, inFlight(n, time, 10))
	}
	return l
}

func sameLoss(a impl.Loss, b impl.Loss) bool {
	return a.Next == b.Next && a.Largest == b.Largest && slices.Equal(a.Flight, b.Flight)
}

func isZeroLoss(l impl.Loss) bool {
	return sameLoss(l, impl.Loss{})
}

func sameResult(a ackResult, b ackResult) bool {
	return sameLoss(a.state, b.state) && slices.Equal(a.arrived, b.arrived) && slices.Equal(a.lost, b.lost)
}

// numbersInFlight returns the numbers of the packets in flight.
func numbersInFlight(l impl.Loss) []int {
	numbers := []int{}
	for _, p := range l.Flight {
		numbers = append(numbers, p.Number)
	}
	return numbers
}

// packetOf returns the packet in flight with a number.
func packetOf(t *testing.T, l impl.Loss, number int) impl.SentPacket {
	t.Helper()
	i := slices.Index(numbersInFlight(l), number)
	if i < 0 {
		t.Fatalf("packet %d is not in flight in %v", number, l)
	}
	return l.Flight[i]
}

// bytesOf returns the total size of the packets of l with these numbers.
func bytesOf(t *testing.T, l impl.Loss, numbers []int) int {
	t.Helper()
	total := 0
	for _, n := range numbers {
		total += packetOf(t, l, n).Size
	}
	return total
}

// expectedLossValid checks each rule of the specification on its own.
func expectedLossValid(l impl.Loss) bool {
	valid := 0 <= l.Next && l.Next <= 1000 && -1 <= l.Largest && l.Largest <= l.Next-1 && len(l.Flight) <= 12
	for i, p := range l.Flight {
		valid = valid && 0 <= p.Number && p.Number <= l.Next-1 && p.Number != l.Largest
		valid = valid && 0 <= p.Time && p.Time <= 999 && 1 <= p.Size && p.Size <= 99
		for _, other := range l.Flight[:i] {
			valid = valid && other.Number < p.Number && other.Time <= p.Time
		}
	}
	return valid
}

// expectedSend follows the sentences of the specification for valid arguments.
func expectedSend(l impl.Loss, time int, size int) (impl.Loss, int, bool) {
	later := slices.ContainsFunc(l.Flight, func(p impl.SentPacket) bool { return p.Time > time })
	if l.Next > 999 || len(l.Flight) >= 12 || later {
		return l, -1, false
	}
	return loss(l.Next+1, l.Largest, append(slices.Clone(l.Flight), inFlight(l.Next, time, size))...), l.Next, true
}

// expectedAck follows the sentences of the specification for valid arguments.
func expectedAck(a ackCall) ackResult {
	set := numbersOf(a.set)
	largest := a.state.Largest
	for n, has := range set {
		if has && n > largest {
			largest = n
		}
	}
	want := ackResult{state: loss(a.state.Next, largest)}
	for _, p := range a.state.Flight {
		far := largest-p.Number >= 3
		old := a.now-p.Time >= a.delay
		switch {
		case set[p.Number]:
			want.arrived = append(want.arrived, p.Number)
		case p.Number < largest && (far || old):
			want.lost = append(want.lost, p.Number)
		default:
			want.state.Flight = append(want.state.Flight, p)
		}
	}
	return want
}

// expectedTimer follows the sentences of the specification for valid arguments.
func expectedTimer(l impl.Loss, delay int) int {
	if len(l.Flight) == 0 || l.Flight[0].Number >= l.Largest {
		return -1
	}
	return l.Flight[0].Time + delay
}

// flightLayouts returns ways to choose count of the numbers below next: the
// first ones, the last ones, with gaps of one number or more, and any.
func flightLayouts(source *rand.Rand, next int, count int) [][]int {
	first, last, gaps, spread := []int{}, []int{}, []int{}, []int{}
	for i := range count {
		first, last = append(first, i), append(last, next-count+i)
		gaps, spread = append(gaps, next-1-2*(count-1-i)), append(spread, i*next/count)
	}
	layouts := [][]int{first, last, spread, slices.Sorted(slices.Values(source.Perm(next)[:count]))}
	if count > 0 && gaps[0] >= 0 {
		layouts = append(layouts, gaps)
	}
	return layouts
}

// flightTimes returns times at which count packets were sent: at the same
// time, at the ends of all times, one after the other, and at any time.
func flightTimes(source *rand.Rand, count int) []int {
	times := make([]int, count)
	kind := source.Intn(7)
	for i := range times {
		times[i] = []int{0, 999, 500, i, 1000 - count + i, i * 999 / count, source.Intn(1000)}[kind]
	}
	slices.Sort(times)
	return times
}

// flightOf returns packets with these numbers, and times and sizes of some kind.
func flightOf(source *rand.Rand, numbers []int) []impl.SentPacket {
	flight, kind := []impl.SentPacket{}, source.Intn(4)
	for i, time := range flightTimes(source, len(numbers)) {
		size := []int{1, 99, 1 + 7*i, 1 + source.Intn(99)}[kind]
		flight = append(flight, inFlight(numbers[i], time, size))
	}
	return flight
}

// sampleLosses returns valid states: all numbers of packets in flight, in
// various layouts, with values of Largest before, between and behind them.
func sampleLosses() []impl.Loss {
	source, list := rand.New(rand.NewSource(22)), []impl.Loss{}
	for _, next := range []int{0, 1, 2, 3, 4, 5, 6, 12, 13, 14, 30, 500, 998, 999, 1000} {
		for _, count := range inside(0, next, 0, 1, 2, 3, 5, 11, 12) {
			for _, numbers := range flightLayouts(source, next, count) {
				near := []int{-1, 0, next / 2, next - 2, next - 1}
				for _, n := range numbers {
					near = append(near, n+1+source.Intn(4))
				}
				for _, largest := range inside(-1, next-1, near...) {
					if !slices.Contains(numbers, largest) {
						list = append(list, loss(next, largest, flightOf(source, numbers)...))
					}
				}
			}
		}
	}
	return list
}

// setsNear returns valid acknowledgements for a state: of nothing, of all
// numbers, of all, some and none of the packets in flight, and of single
// numbers at the packets in flight, next to and far from them.
func setsNear(source *rand.Rand, l impl.Loss) [][]impl.Range {
	all, flying := numberSet{}.with(0, l.Next-1, true), numberSet{}
	below, above, some := numberSet{}, numberSet{}, numberSet{}
	near := []int{0, l.Largest - 1, l.Largest, l.Largest + 1, l.Next - 2, l.Next - 1}
	for _, n := range numbersInFlight(l) {
		flying[n], all[n] = true, false
		below[n], above[n], some[n] = n < l.Largest, n > l.Largest, source.Intn(2) == 0
		near = append(near, n, n-1+source.Intn(7))
	}
	list := [][]impl.Range{
		nil, {}, numberSet{}.with(0, l.Next-1, true).ranges(), all.ranges(), flying.ranges(), below.ranges(), above.ranges(), some.ranges(),
	}
	for _, n := range inside(0, l.Next-1, near...) {
		list = append(list, rangeList(n, n), rangeList(source.Intn(n+1), n))
	}
	return list
}

// timingsNear returns times and delays: the ends of their ranges, and those
// for which a packet in flight is of the age of the delay, or nearly so.
func timingsNear(l impl.Loss) []timing {
	list := []timing{{0, 1}, {0, 1998}, {500, 100}, {999, 1}, {999, 999}, {999, 1000}, {999, 1998}}
	for _, p := range l.Flight {
		for d := -1; d <= 1; d++ {
			for _, delay := range []int{1, 2, 45, 999} {
				list = append(list, timing{p.Time + delay + d, delay})
			}
			list = append(list, timing{999, 999 - p.Time + d}, timing{p.Time + d, 1}, timing{p.Time + d, 1998})
		}
	}
	return slices.DeleteFunc(list, func(c timing) bool { return c.now < 0 || c.now > 999 || c.delay < 1 })
}

// forLossAcks calls check for valid arguments of LossAck: sample states, sets
// near them, and some of the timings near them.
func forLossAcks(check func(a ackCall)) {
	source := rand.New(rand.NewSource(2222))
	for _, l := range sampleLosses() {
		timings := timingsNear(l)
		for _, set := range setsNear(source, l) {
			for range 3 {
				c := timings[source.Intn(len(timings))]
				check(ackCall{l, set, c.now, c.delay})
			}
		}
	}
}

// forSmallLosses calls check for all valid states with at most 5 numbers, with
// packets that were sent at the same time or one after the other.
func forSmallLosses(check func(l impl.Loss)) {
	for next := range 6 {
		for bits := range 1 << next {
			same, apart := []impl.SentPacket{}, []impl.SentPacket{}
			for n := range next {
				if bits>>n&1 == 1 {
					same, apart = append(same, inFlight(n, 2, n+1)), append(apart, inFlight(n, n, 99-n))
				}
			}
			for largest := -1; largest < next; largest++ {
				if largest < 0 || bits>>largest&1 == 0 {
					check(loss(next, largest, same...))
					check(loss(next, largest, apart...))
				}
			}
		}
	}
}

// forSmallAcks calls check for all small states with all acknowledgements of
// them, at times at which all, some and none of their packets are old.
func forSmallAcks(check func(a ackCall)) {
	forSmallLosses(func(l impl.Loss) {
		for bits := range 1 << l.Next {
			set := numberSet{}
			for n := range l.Next {
				set[n] = bits>>n&1 == 1
			}
			ranges := set.ranges()
			for now := range 7 {
				check(ackCall{l, ranges, now, 1})
			}
			for _, delay := range []int{2, 3, 4, 7} {
				check(ackCall{l, ranges, 6, delay})
			}
		}
	})
}

// lossRun is a run from LossNew on. It knows of each number that was sent what
// became of it: "flight", "arrived" or "lost".
type lossRun struct {
	state  impl.Loss
	now    int
	delay  int
	became map[int]string
}

// forLossRuns calls check for each acknowledgement of random runs, in which
// the acknowledged numbers were sent before, whatever became of them.
func forLossRuns(t *testing.T, check func(run *lossRun, a ackCall)) {
	t.Helper()
	source := rand.New(rand.NewSource(222))
	for range 300 {
		run := &lossRun{state: impl.LossNew(), delay: 1 + source.Intn(40), became: map[int]string{}}
		for range 120 {
			run.now = min(run.now+source.Intn(6), 999)
			for range source.Intn(5) {
				run.send(t, source)
			}
			// Some come late, for numbers that were sent long ago.
			low := source.Intn(run.state.Next + 1)
			if source.Intn(2) == 0 {
				low = max(run.state.Next-source.Intn(14), 0)
			}
			set := numberSet{}
			for n := low; n < min(low+10, run.state.Next); n++ {
				set[n] = source.Intn(3) == 0
			}
			a := ackCall{run.state, set.ranges(), run.now, run.delay}
			check(run, a)
			run.state = acked(t, a).state
		}
	}
}

func (run *lossRun) send(t *testing.T, source *rand.Rand) {
	t.Helper()
	next, number, ok := impl.LossSend(run.state, run.now, 1+source.Intn(99))
	if ok {
		run.state, run.became[number] = next, "flight"
	}
}

// invalidLosses returns states that are valid but for one thing.
func invalidLosses() []impl.Loss {
	list := []impl.Loss{}
	for _, wrong := range append(outsideFrom(1000), math.MinInt+1) {
		list = append(list, loss(wrong, -1), loss(wrong, 0), lossAt(wrong, -1, 5, 3), lossAt(wrong, 4, 5, 3), loss(wrong, wrong-1), loss(wrong, wrong))
	}
	for _, next := range []int{0, 1, 9, 999, 1000} {
		for _, wrong := range append(outsideFrom(next-1), -3, math.MinInt+1) {
			if wrong != -1 {
				list = append(list, loss(next, wrong))
			}
		}
	}
	for _, count := range []int{13, 14, 24, 25, 200} {
		numbers := []int{}
		for n := range count {
			numbers = append(numbers, n)
		}
		list = append(list, lossAt(count, -1, 5, numbers...), lossAt(999, 500, 0, numbers...), lossAt(1000, 999, 999, numbers...))
	}
	for _, numbers := range [][]int{
		{3, 3}, {4, 3}, {0, 0}, {0, 1, 1}, {1, 1, 2}, {0, 2, 1}, {5, 2, 7}, {2, 1, 0}, {1, 5, 0}, {0, 8, 8}, {8, 0},
		// Not below Next, and below 0.
		{9}, {10}, {0, 9}, {8, 9}, {1, 2, 10}, {999}, {1000}, {-1}, {-1, 0}, {-2, 3}, {0, -1}, {3, -5},
		// Equal to Largest.
		{6}, {5, 6}, {6, 7}, {0, 6, 8},
	} {
		list = append(list, lossAt(9, 6, 5, numbers...))
	}
	return append(list, invalidPackets()...)
}

// invalidPackets returns states that are valid but for one packet.
func invalidPackets() []impl.Loss {
	list := []impl.Loss{lossAt(1000, 0, 5, 0), lossAt(1000, 0, 5, 0, 1), lossAt(1000, 999, 5, 998, 999), lossAt(1, 0, 5, 0), lossAt(1000, -1, 5, 1000), lossAt(0, -1, 5, 0), lossAt(0, -1, 5, -1)}
	at := func(change func(p *impl.SentPacket)) {
		for _, count := range []int{1, 2, 3, 12} {
			for _, i := range inside(0, count-1, 0, count/2, count-1) {
				l := loss(40, 39)
				for n := range count {
					l.Flight = append(l.Flight, inFlight(10+2*n, 500, 50))
				}
				change(&l.Flight[i])
				list = append(list, l)
			}
		}
	}
	for _, wrong := range outsideFrom(39) {
		at(func(p *impl.SentPacket) { p.Number = wrong })
	}
	for _, wrong := range outsideFrom(999) {
		at(func(p *impl.SentPacket) { p.Time = wrong })
	}
	for _, wrong := range noPacketSizes {
		at(func(p *impl.SentPacket) { p.Size = wrong })
	}
	for _, times := range [][]int{{1, 0}, {999, 998}, {0, 1, 0}, {5, 5, 4}, {5, 4, 4}, {5, 4, 5}, {5, 4, 6}, {5, 3, 9, 9}, {5, 9, 3, 9}, {5, 6, 9, 8}, {999, 0}} {
		l := loss(40, 39)
		for i, time := range times {
			l.Flight = append(l.Flight, inFlight(i, time, 50))
		}
		list = append(list, l)
	}
	return list
}

// acked returns the result of LossAck, and fails the test if there is none.
func acked(t *testing.T, a ackCall) ackResult {
	t.Helper()
	state, arrived, lost, ok := impl.LossAck(a.state, a.set, a.now, a.delay)
	if !ok {
		t.Fatalf("LossAck%v failed", a)
	}
	return ackResult{state, arrived, lost}
}

func expectAck(t *testing.T, a ackCall, want ackResult) {
	t.Helper()
	if got := acked(t, a); !sameResult(got, want) {
		t.Fatalf("LossAck%v returned %v, want %v", a, got, want)
	}
}

func expectNoAck(t *testing.T, a ackCall) {
	t.Helper()
	state, arrived, lost, ok := impl.LossAck(a.state, a.set, a.now, a.delay)
	if ok || !isZeroLoss(state) || len(arrived) != 0 || len(lost) != 0 {
		t.Fatalf("LossAck%v returned %v, %v, %v, %t", a, state, arrived, lost, ok)
	}
}

func expectSend(t *testing.T, l impl.Loss, time int, size int) {
	t.Helper()
	want, number, sent := expectedSend(l, time, size)
	got, n, ok := impl.LossSend(l, time, size)
	if ok != sent || n != number || !sameLoss(got, want) {
		t.Fatalf("LossSend(%v, %d, %d) returned %v, %d, %t, want %v, %d, %t", l, time, size, got, n, ok, want, number, sent)
	}
}

// expectUnsent checks that valid arguments of LossSend change nothing.
func expectUnsent(t *testing.T, l impl.Loss, time int, size int) {
	t.Helper()
	if got, n, ok := impl.LossSend(l, time, size); ok || n != -1 || !sameLoss(got, l) {
		t.Fatalf("LossSend(%v, %d, %d) returned %v, %d, %t", l, time, size, got, n, ok)
	}
}

// expectNoSend checks that invalid arguments of LossSend give zero values.
func expectNoSend(t *testing.T, l impl.Loss, time int, size int) {
	t.Helper()
	if got, n, ok := impl.LossSend(l, time, size); ok || n != 0 || !isZeroLoss(got) {
		t.Fatalf("LossSend(%v, %d, %d) returned %v, %d, %t", l, time, size, got, n, ok)
	}
}

func expectLossValid(t *testing.T, l impl.Loss, want bool) {
	t.Helper()
	if impl.LossValid(l) != want {
		t.Fatalf("LossValid(%v) returned %t", l, !want)
	}
}

func expectTimer(t *testing.T, l impl.Loss, delay int, want int) {
	t.Helper()
	if got := impl.LossTimer(l, delay); got != want {
		t.Fatalf("LossTimer(%v, %d) returned %d, want %d", l, delay, got, want)
	}
}

func expectBytes(t *testing.T, l impl.Loss, want int) {
	t.Helper()
	if got := impl.LossBytes(l); got != want {
		t.Fatalf("LossBytes(%v) returned %d, want %d", l, got, want)
	}
}

func TestLossConstants(t *testing.T) {
	if impl.MaxFlight != 12 || impl.ReorderLimit != 3 || impl.MaxSize != 99 {
		t.Error("MaxFlight is not 12, ReorderLimit is not 3, or MaxSize is not 99")
	}
}

func TestLossValidExamples(t *testing.T) {
	for _, l := range []impl.Loss{
		loss(0, -1), loss(1, -1), loss(1, 0), loss(999, 998), loss(1000, -1), loss(1000, 999), {Next: 1, Flight: []impl.SentPacket{}},
		lossAt(1, -1, 0, 0), lossAt(1000, 998, 999, 999), lossAt(1000, 999, 0, 0, 998), lossAt(9, 6, 5, 0, 5, 7, 8),
		lossAt(12, -1, 5, 0, 1, 2, 3, 4, 5, 6, 7, 8, 9, 10, 11), lossAt(1000, 0, 5, 988, 989, 990, 991, 992, 993, 994, 995, 996, 997, 998, 999),
		// Equal and increasing times, and sizes of 1 and MaxSize.
		loss(5, 2, inFlight(0, 0, 1), inFlight(1, 0, 99), inFlight(3, 999, 99), inFlight(4, 999, 1)),
		loss(5, -1, inFlight(0, 0, 50), inFlight(1, 1, 50), inFlight(2, 1, 50), inFlight(3, 998, 50), inFlight(4, 999, 50)),
	} {
		expectLossValid(t, l, true)
	}
	// The zero value has a Largest that is not less than Next.
	expectLossValid(t, impl.Loss{}, false)
}

func TestLossValidStates(t *testing.T) {
	for _, l := range sampleLosses() {
		expectLossValid(t, l, true)
	}
	forSmallLosses(func(l impl.Loss) { expectLossValid(t, l, true) })
	for _, l := range invalidLosses() {
		if expectedLossValid(l) {
			t.Fatalf("%v is valid", l)
		}
		expectLossValid(t, l, false)
	}
}

func TestLossValidNextAndLargest(t *testing.T) {
	for next := -3; next <= 1003; next++ {
		for largest := -3; largest <= 1003; largest++ {
			l := loss(next, largest)
			expectLossValid(t, l, expectedLossValid(l))
		}
	}
}

func TestLossValidOnePacket(t *testing.T) {
	for next := -1; next <= 4; next++ {
		for largest := -2; largest <= 4; largest++ {
			for number := -2; number <= 5; number++ {
				for _, time := range []int{-1, 0, 1, 998, 999, 1000} {
					for _, size := range []int{-1, 0, 1, 2, 98, 99, 100} {
						l := loss(next, largest, inFlight(number, time, size))
						expectLossValid(t, l, expectedLossValid(l))
					}
				}
			}
		}
	}
}

func TestLossValidThreePackets(t *testing.T) {
	values := []int{-1, 0, 1, 2, 3, 4}
	for _, a := range values {
		for _, b := range values {
			for _, c := range values {
				for largest := -1; largest <= 3; largest++ {
					numbers, times := lossAt(4, largest, 7, a, b, c), loss(9, largest+5, inFlight(1, a, 1), inFlight(2, b, 99), inFlight(3, c, 50))
					expectLossValid(t, numbers, expectedLossValid(numbers))
					expectLossValid(t, times, expectedLossValid(times))
				}
			}
		}
	}
}

func TestPromise89New(t *testing.T) {
	l := impl.LossNew()
	expectLossValid(t, l, true)
	if l.Next != 0 || len(l.Flight) != 0 || l.Largest != -1 {
		t.Errorf("LossNew returned %v", l)
	}
	expectBytes(t, l, 0)
	expectTimer(t, l, 100, -1)
	expectAck(t, ackCall{l, nil, 0, 1}, ackResult{state: l})
	expectNoAck(t, ackCall{l, rangeList(0, 0), 0, 1})
	next, n, ok := impl.LossSend(l, 0, 1)
	if want := loss(1, -1, inFlight(0, 0, 1)); n != 0 || !ok || !sameLoss(next, want) {
		t.Errorf("LossSend returned %v, %d, %t, want %v", next, n, ok, want)
	}
}

// forLossSends calls check for valid arguments of LossSend, with times at and
// next to those of packets in flight.
func forLossSends(check func(l impl.Loss, time int, size int)) {
	both := func(l impl.Loss) {
		near := []int{0, 1, 500, 998, 999}
		for _, p := range l.Flight {
			near = append(near, p.Time-1, p.Time, p.Time+1)
		}
		for _, time := range inside(0, 999, near...) {
			for _, size := range []int{1, 2, 50, 98, 99} {
				check(l, time, size)
			}
		}
	}
	for _, l := range sampleLosses() {
		both(l)
	}
	forSmallLosses(both)
}

func TestPromise90Sent(t *testing.T) {
	sent := 0
	forLossSends(func(l impl.Loss, time int, size int) {
		next, n, ok := impl.LossSend(l, time, size)
		if !ok {
			return
		}
		sent++
		expectLossValid(t, next, true)
		last := len(next.Flight) - 1
		if n != l.Next || next.Next != l.Next+1 || next.Largest != l.Largest || last != len(l.Flight) {
			t.Fatalf("LossSend(%v, %d, %d) returned %v, %d", l, time, size, next, n)
		}
		if next.Flight[last] != inFlight(n, time, size) || !slices.Equal(next.Flight[:last], l.Flight) {
			t.Fatalf("LossSend(%v, %d, %d) returned %v, %d", l, time, size, next, n)
		}
	})
	if sent < 1000 {
		t.Errorf("only %d packets were sent", sent)
	}
}

func TestPromise90Examples(t *testing.T) {
	expectSend(t, loss(5, 3, inFlight(4, 7, 20)), 7, 30)
	got, n, ok := impl.LossSend(loss(5, 3, inFlight(4, 7, 20)), 7, 30)
	if want := loss(6, 3, inFlight(4, 7, 20), inFlight(5, 7, 30)); !ok || n != 5 || !sameLoss(got, want) {
		t.Errorf("LossSend returned %v, %d, %t, want %v", got, n, ok, want)
	}
	// The last number.
	got, n, ok = impl.LossSend(loss(999, 998), 999, 99)
	if want := loss(1000, 998, inFlight(999, 999, 99)); !ok || n != 999 || !sameLoss(got, want) {
		t.Errorf("LossSend returned %v, %d, %t, want %v", got, n, ok, want)
	}
	expectUnsent(t, got, 999, 99)
}

func TestPromise91Unsent(t *testing.T) {
	full, spent, early := 0, 0, 0
	forLossSends(func(l impl.Loss, time int, size int) {
		expectSend(t, l, time, size)
		later := slices.ContainsFunc(l.Flight, func(p impl.SentPacket) bool { return p.Time > time })
		if len(l.Flight) < 12 && l.Next <= 999 && !later {
			if _, _, ok := impl.LossSend(l, time, size); !ok {
				t.Fatalf("LossSend(%v, %d, %d) failed", l, time, size)
			}
			return
		}
		expectUnsent(t, l, time, size)
		switch {
		case len(l.Flight) == 12:
			full++
		case l.Next == 1000:
			spent++
		default:
			early++
		}
	})
	if full < 1000 || spent < 1000 || early < 1000 {
		t.Errorf("only %d states are full, %d without a number, and %d with later packets", full, spent, early)
	}
}

func TestPromise91Examples(t *testing.T) {
	l := loss(9, -1, inFlight(3, 20, 5), inFlight(8, 30, 5))
	for time := range 1000 {
		if time >= 30 {
			expectSend(t, l, time, 50)
		} else {
			// Also between the packets in flight, and before both.
			expectUnsent(t, l, time, 50)
		}
	}
	// No number is left, whatever is in flight.
	for _, l := range []impl.Loss{loss(1000, -1), loss(1000, 999), lossAt(1000, 2, 5, 1, 999)} {
		expectUnsent(t, l, 5, 1)
		expectUnsent(t, l, 999, 99)
	}
}

func TestPromise91MaxFlight(t *testing.T) {
	l := impl.LossNew()
	for i := range 12 {
		next, n, ok := impl.LossSend(l, 7, 1+i)
		if !ok || n != i {
			t.Fatalf("LossSend(%v, 7, %d) returned %d, %t", l, 1+i, n, ok)
		}
		l = next
	}
	expectUnsent(t, l, 7, 1)
	expectUnsent(t, l, 999, 99)
	expectBytes(t, l, 78)
	// An acknowledged packet makes space for one.
	after := acked(t, ackCall{l, rangeList(0, 0), 7, 10}).state
	next, n, ok := impl.LossSend(after, 7, 1)
	if !ok || n != 12 || len(next.Flight) != 12 {
		t.Fatalf("LossSend(%v, 7, 1) returned %v, %d, %t", after, next, n, ok)
	}
	expectUnsent(t, next, 7, 1)
}

func TestPromise91AllNumbers(t *testing.T) {
	l := impl.LossNew()
	for i := range 1000 {
		expectSend(t, l, i, 1+i%99)
		next, _, _ := impl.LossSend(l, i, 1+i%99)
		l = acked(t, ackCall{next, rangeList(i, i), i, 1}).state
	}
	if want := loss(1000, 999); !sameLoss(l, want) {
		t.Fatalf("the state is %v", l)
	}
	expectUnsent(t, l, 999, 1)
}

func TestPromise91InvalidState(t *testing.T) {
	for _, l := range invalidLosses() {
		for _, time := range []int{-1, 0, 5, 500, 999, 1000} {
			for _, size := range []int{0, 1, 99, 100} {
				expectNoSend(t, l, time, size)
			}
		}
	}
}

func TestPromise91InvalidTimeOrSize(t *testing.T) {
	// They are checked before the reasons for which nothing changes.
	for _, l := range append(sampleLosses(), impl.LossNew()) {
		for _, wrong := range append(outsideFrom(999), math.MinInt+1) {
			expectNoSend(t, l, wrong, 50)
		}
		for _, wrong := range noPacketSizes {
			expectNoSend(t, l, 0, wrong)
			expectNoSend(t, l, 999, wrong)
		}
		expectNoSend(t, l, -1, 0)
		expectNoSend(t, l, 1000, 100)
	}
}

func TestPromise92EachPacketInOne(t *testing.T) {
	check := func(a ackCall) {
		r := acked(t, a)
		expectLossValid(t, r.state, true)
		all := slices.Concat(r.arrived, r.lost, numbersInFlight(r.state))
		slices.Sort(all)
		if !slices.Equal(all, numbersInFlight(a.state)) || r.state.Next != a.state.Next {
			t.Fatalf("LossAck%v returned %v", a, r)
		}
		for _, p := range r.state.Flight {
			if p != packetOf(t, a.state, p.Number) {
				t.Fatalf("LossAck%v returned %v", a, r)
			}
		}
	}
	forLossAcks(check)
	forSmallAcks(check)
}

func TestPromise92AllResults(t *testing.T) {
	check := func(a ackCall) { expectAck(t, a, expectedAck(a)) }
	forLossAcks(check)
	forSmallAcks(check)
	forLossRuns(t, func(run *lossRun, a ackCall) { check(a) })
}

func TestPromise92Runs(t *testing.T) {
	lateArrivals, lateNumbers, losses := 0, 0, 0
	forLossRuns(t, func(run *lossRun, a ackCall) {
		r := acked(t, a)
		set := numbersOf(a.set)
		for n, what := range run.became {
			if set[n] && what == "lost" {
				lateNumbers++
			}
		}
		for _, n := range r.arrived {
			if run.became[n] != "flight" || !set[n] {
				t.Fatalf("LossAck%v returned %v, but %d is %s", a, r, n, run.became[n])
			}
			run.became[n] = "arrived"
			if n < a.state.Largest {
				lateArrivals++
			}
		}
		for _, n := range r.lost {
			if run.became[n] != "flight" || set[n] {
				t.Fatalf("LossAck%v returned %v, but %d is %s", a, r, n, run.became[n])
			}
			run.became[n] = "lost"
			losses++
		}
		flying := 0
		for n, what := range run.became {
			if what == "flight" {
				flying++
				packetOf(t, r.state, n)
			}
		}
		if flying != len(r.state.Flight) {
			t.Fatalf("LossAck%v returned %v, but %d packets are in flight", a, r, flying)
		}
	})
	if lateArrivals < 1000 || lateNumbers < 1000 || losses < 1000 {
		t.Errorf("only %d packets arrived late, %d lost ones were acknowledged, and %d were lost", lateArrivals, lateNumbers, losses)
	}
}

func TestPromise92Examples(t *testing.T) {
	l := loss(5, -1, inFlight(0, 0, 10), inFlight(1, 1, 10), inFlight(2, 2, 10), inFlight(3, 3, 10), inFlight(4, 4, 10))
	for _, c := range []struct {
		set        []impl.Range
		now, delay int
		want       ackResult
	}{
		{rangeList(4, 4), 5, 100, ackResult{loss(5, 4, l.Flight[2:4]...), []int{4}, []int{0, 1}}},
		{rangeList(4, 4), 5, 3, ackResult{loss(5, 4, l.Flight[3]), []int{4}, []int{0, 1, 2}}},
		{rangeList(4, 4), 5, 2, ackResult{loss(5, 4), []int{4}, []int{0, 1, 2, 3}}},
		{rangeList(0, 0, 4, 4), 5, 100, ackResult{loss(5, 4, l.Flight[2:4]...), []int{0, 4}, []int{1}}},
		{rangeList(1, 3), 5, 100, ackResult{loss(5, 3, l.Flight[4]), []int{1, 2, 3}, []int{0}}},
		{rangeList(2, 2), 5, 100, ackResult{loss(5, 2, l.Flight[0], l.Flight[1], l.Flight[3], l.Flight[4]), []int{2}, nil}},
		{rangeList(2, 2), 5, 5, ackResult{loss(5, 2, l.Flight[1], l.Flight[3], l.Flight[4]), []int{2}, []int{0}}},
		{rangeList(2, 2), 5, 1, ackResult{loss(5, 2, l.Flight[3:]...), []int{2}, []int{0, 1}}},
		{nil, 5, 1, ackResult{l, nil, nil}},
		{nil, 999, 1, ackResult{l, nil, nil}},
		{rangeList(0, 0), 999, 1, ackResult{loss(5, 0, l.Flight[1:]...), []int{0}, nil}},
		{rangeList(0, 4), 999, 1, ackResult{loss(5, 4), []int{0, 1, 2, 3, 4}, nil}},
	} {
		expectAck(t, ackCall{l, c.set, c.now, c.delay}, c.want)
	}
}

// Packets are acknowledged late, after others and themselves were lost.
func TestPromise92AcknowledgedLate(t *testing.T) {
	l := lossAt(8, -1, 10, 0, 1, 2, 3, 4, 5, 6, 7)
	first := ackResult{lossAt(8, 5, 10, 3, 4, 6, 7), []int{5}, []int{0, 1, 2}}
	expectAck(t, ackCall{l, rangeList(5, 5), 20, 100}, first)
	// Lost ones are neither acknowledged nor lost again, and Largest stays.
	for _, set := range [][]impl.Range{rangeList(0, 0), rangeList(2, 2), rangeList(0, 2), rangeList(0, 2, 5, 5), rangeList(5, 5), nil} {
		expectAck(t, ackCall{first.state, set, 20, 100}, ackResult{first.state, nil, nil})
	}
	// Those that are below Largest can still arrive, alone, with lost ones and with later ones.
	expectAck(t, ackCall{first.state, rangeList(3, 3), 20, 100}, ackResult{lossAt(8, 5, 10, 4, 6, 7), []int{3}, nil})
	expectAck(t, ackCall{first.state, rangeList(0, 4), 20, 100}, ackResult{lossAt(8, 5, 10, 6, 7), []int{3, 4}, nil})
	expectAck(t, ackCall{first.state, rangeList(0, 0, 3, 3, 6, 6), 20, 100}, ackResult{lossAt(8, 6, 10, 4, 7), []int{3, 6}, nil})
	expectAck(t, ackCall{first.state, rangeList(4, 4, 7, 7), 20, 100}, ackResult{lossAt(8, 7, 10, 6), []int{4, 7}, []int{3}})
	// Even when they are old, if they arrive just then.
	expectAck(t, ackCall{first.state, rangeList(0, 0, 3, 3), 110, 100}, ackResult{lossAt(8, 5, 10, 6, 7), []int{3}, []int{4}})
	expectAck(t, ackCall{first.state, rangeList(3, 4), 999, 1}, ackResult{lossAt(8, 5, 10, 6, 7), []int{3, 4}, nil})
	// A set below Largest still loses what is far below it, or old.
	expectAck(t, ackCall{lossAt(30, 20, 10, 3, 16, 17, 18, 19, 21), rangeList(4, 4), 20, 100}, ackResult{lossAt(30, 20, 10, 18, 19, 21), nil, []int{3, 16, 17}})
	expectAck(t, ackCall{lossAt(30, 20, 10, 3, 16, 17, 18, 19, 21), rangeList(17, 18), 20, 10}, ackResult{lossAt(30, 20, 10, 21), []int{17, 18}, []int{3, 16, 19}})
}

func TestPromise93Acknowledged(t *testing.T) {
	check := func(a ackCall) {
		r, set := acked(t, a), numbersOf(a.set)
		want := slices.DeleteFunc(numbersInFlight(a.state), func(n int) bool { return !set[n] })
		if !slices.Equal(r.arrived, want) || !slices.IsSorted(r.lost) {
			t.Fatalf("LossAck%v returned %v, want %v", a, r, want)
		}
	}
	forLossAcks(check)
	forSmallAcks(check)
}

func TestPromise93Ranges(t *testing.T) {
	// MaxRanges ranges, of which each has one packet, or no packet at all.
	flight := []int{1, 9, 17, 25, 33, 41, 49, 57, 65, 73, 81, 121}
	l := lossAt(200, 130, 10, flight...)
	at, between := spacedRanges(16, 0, 2, 6), spacedRanges(16, 2, 7, 1)
	expectAck(t, ackCall{l, at, 10, 50}, ackResult{lossAt(200, 130, 10), flight, nil})
	expectAck(t, ackCall{l, between, 10, 50}, ackResult{lossAt(200, 130, 10), nil, flight})
	// The last range alone, and the first one.
	expectAck(t, ackCall{l, at[15:], 10, 50}, ackResult{lossAt(200, 130, 10), []int{121}, flight[:11]})
	expectAck(t, ackCall{l, at[:1], 10, 50}, ackResult{lossAt(200, 130, 10), []int{1}, flight[1:]})
	// The ends of ranges, and the numbers next to them.
	expectAck(t, ackCall{lossAt(20, -1, 10, 4, 5, 6, 9, 10), rangeList(5, 9), 10, 50}, ackResult{lossAt(20, 9, 10, 10), []int{5, 6, 9}, []int{4}})
}

func TestPromise94Lost(t *testing.T) {
	far, old := 0, 0
	check := func(a ackCall) {
		r := acked(t, a)
		for _, n := range r.lost {
			age, distance := a.now-packetOf(t, a.state, n).Time, r.state.Largest-n
			if distance <= 0 || distance < 3 && age < a.delay {
				t.Fatalf("LossAck%v returned %v", a, r)
			}
			if distance < 3 {
				old++
			}
			if age < a.delay {
				far++
			}
		}
	}
	forLossAcks(check)
	forSmallAcks(check)
	if far < 1000 || old < 1000 {
		t.Errorf("only %d packets were lost by reordering, and %d by age", far, old)
	}
}

func TestPromise94Distance(t *testing.T) {
	for _, largest := range []int{3, 5, 500, 998, 999} {
		for distance := -1; distance <= 5; distance++ {
			number := largest - distance
			if distance == 0 || number < 0 || number > 999 {
				continue
			}
			l := lossAt(1000, -1, 10, number)
			before, lost := l, []int(nil)
			before.Largest = largest
			after := before
			if distance >= 3 {
				after, lost = loss(1000, largest), []int{number}
			}
			// The number is acknowledged now, or was before.
			expectAck(t, ackCall{l, rangeList(largest, largest), 10, 1}, ackResult{after, nil, lost})
			expectAck(t, ackCall{before, nil, 10, 1}, ackResult{after, nil, lost})
			// Its distance counts whatever its age is.
			expectAck(t, ackCall{before, nil, 0, 1998}, ackResult{after, nil, lost})
		}
	}
}

func TestPromise94Age(t *testing.T) {
	for _, sent := range []int{0, 1, 10, 500, 998, 999} {
		l := lossAt(20, 18, sent, 16, 17, 19)
		for now := range 1000 {
			for _, delay := range inside(1, 1998, now-sent-1, now-sent, now-sent+1, 1, 2, 100, 999, 1000, 1998) {
				want := ackResult{state: l}
				if now-sent >= delay {
					want = ackResult{lossAt(20, 18, sent, 19), nil, []int{16, 17}}
				}
				expectAck(t, ackCall{l, nil, now, delay}, want)
			}
		}
	}
}

func TestPromise94AgeExamples(t *testing.T) {
	l := loss(20, -1, inFlight(16, 0, 1), inFlight(17, 50, 99), inFlight(18, 50, 1), inFlight(19, 51, 99))
	set := rangeList(18, 18)
	expectAck(t, ackCall{l, set, 99, 100}, ackResult{loss(20, 18, l.Flight[0], l.Flight[1], l.Flight[3]), []int{18}, nil})
	expectAck(t, ackCall{l, set, 100, 100}, ackResult{loss(20, 18, l.Flight[1], l.Flight[3]), []int{18}, []int{16}})
	expectAck(t, ackCall{l, set, 149, 100}, ackResult{loss(20, 18, l.Flight[1], l.Flight[3]), []int{18}, []int{16}})
	expectAck(t, ackCall{l, set, 150, 100}, ackResult{loss(20, 18, l.Flight[3]), []int{18}, []int{16, 17}})
	// A packet above Largest is not lost, however old it is.
	expectAck(t, ackCall{l, set, 999, 1}, ackResult{loss(20, 18, l.Flight[3]), []int{18}, []int{16, 17}})
	// The delay may exceed all times, and the time may be before the packets.
	expectAck(t, ackCall{l, set, 999, 1000}, ackResult{loss(20, 18, l.Flight[0], l.Flight[1], l.Flight[3]), []int{18}, nil})
	expectAck(t, ackCall{l, set, 999, 999}, ackResult{loss(20, 18, l.Flight[1], l.Flight[3]), []int{18}, []int{16}})
	expectAck(t, ackCall{l, set, 0, 1}, ackResult{loss(20, 18, l.Flight[0], l.Flight[1], l.Flight[3]), []int{18}, nil})
	expectAck(t, ackCall{l, set, 0, 1998}, ackResult{loss(20, 18, l.Flight[0], l.Flight[1], l.Flight[3]), []int{18}, nil})
}

func TestPromise95Remaining(t *testing.T) {
	above, below := 0, 0
	check := func(a ackCall) {
		r := acked(t, a)
		for _, p := range r.state.Flight {
			switch {
			case p.Number > r.state.Largest:
				above++
			case r.state.Largest-p.Number < 3 && a.now-p.Time < a.delay:
				below++
			default:
				t.Fatalf("LossAck%v returned %v", a, r)
			}
		}
	}
	forLossAcks(check)
	forSmallAcks(check)
	if above < 1000 || below < 1000 {
		t.Errorf("only %d packets remained above Largest, and %d below", above, below)
	}
}

func TestPromise96SameAgain(t *testing.T) {
	check := func(a ackCall) {
		r := acked(t, a)
		again := ackCall{r.state, a.set, a.now, a.delay}
		expectAck(t, again, ackResult{r.state, nil, nil})
		// Nothing is lost again without the set, either.
		again.set = nil
		expectAck(t, again, ackResult{r.state, nil, nil})
	}
	forLossAcks(check)
	forSmallAcks(check)
	forLossRuns(t, func(run *lossRun, a ackCall) { check(a) })
}

// The result depends on the arguments alone, not on the calls before.
func TestPromise96SameArguments(t *testing.T) {
	forLossAcks(func(a ackCall) {
		first := acked(t, a)
		acked(t, ackCall{first.state, nil, 999, 1})
		expectAck(t, a, first)
	})
}

func TestPromise97Largest(t *testing.T) {
	check := func(a ackCall) {
		want := a.state.Largest
		for n, has := range numbersOf(a.set) {
			if has && n > want {
				want = n
			}
		}
		if r := acked(t, a); r.state.Largest != want {
			t.Fatalf("LossAck%v returned %v, want %d", a, r, want)
		}
	}
	forLossAcks(check)
	forSmallAcks(check)
}

func TestPromise97AllNumbers(t *testing.T) {
	for last := range 1000 {
		for _, largest := range inside(-1, 999, -1, 0, last-1, last, last+1, 998, 999) {
			for _, low := range inside(0, last, 0, last-1, last) {
				r := acked(t, ackCall{loss(1000, largest), rangeList(low, last), 5, 5})
				if want := loss(1000, max(largest, last)); !sameLoss(r.state, want) {
					t.Fatalf("LossAck of %d to %d after %d returned %v", low, last, largest, r)
				}
			}
		}
	}
	// Ranges before the last one do not count, and the empty set has no number.
	expectAck(t, ackCall{loss(1000, 5), rangeList(0, 2, 4, 4), 5, 5}, ackResult{state: loss(1000, 5)})
	expectAck(t, ackCall{loss(1000, 5), rangeList(0, 2, 9, 9), 5, 5}, ackResult{state: loss(1000, 9)})
	expectAck(t, ackCall{loss(1000, 5), nil, 5, 5}, ackResult{state: loss(1000, 5)})
	expectAck(t, ackCall{loss(1000, -1), nil, 5, 5}, ackResult{state: loss(1000, -1)})
}

func TestPromise98NumberOfNoPacket(t *testing.T) {
	for _, l := range sampleLosses() {
		for _, wrong := range inside(l.Next, 999, l.Next, l.Next+1, l.Next+2, l.Next+500, 998, 999) {
			expectNoAck(t, ackCall{l, rangeList(wrong, wrong), 999, 1})
			expectNoAck(t, ackCall{l, rangeList(l.Next, wrong), 5, 100})
			expectNoAck(t, ackCall{l, rangeList(0, wrong), 0, 1998})
			if l.Next > 1 {
				expectNoAck(t, ackCall{l, rangeList(l.Next-1, wrong), 5, 100})
				expectNoAck(t, ackCall{l, rangeList(0, l.Next-2, wrong, wrong), 5, 100})
			}
		}
	}
}

func TestPromise98AllNumbers(t *testing.T) {
	for next := range 1001 {
		l := loss(next, next-1)
		for n := max(next-3, 0); n <= min(next+3, 999); n++ {
			a := ackCall{l, rangeList(n, n), 5, 5}
			if n >= next {
				expectNoAck(t, a)
			} else {
				expectAck(t, a, ackResult{state: l})
			}
		}
	}
}

func TestPromise98InvalidState(t *testing.T) {
	for _, l := range invalidLosses() {
		for _, set := range [][]impl.Range{nil, rangeList(0, 0), rangeList(0, 3), rangeList(3, 3), rangeList(0, 999), rangeList(5, 4)} {
			for _, now := range []int{-1, 0, 5, 500, 999, 1000} {
				expectNoAck(t, ackCall{l, set, now, 1})
				expectNoAck(t, ackCall{l, set, now, 1998})
				expectNoAck(t, ackCall{l, set, now, 0})
			}
		}
	}
}

func TestPromise98InvalidSet(t *testing.T) {
	for _, l := range []impl.Loss{impl.LossNew(), loss(1000, -1), loss(1000, 999), lossAt(1000, 500, 5, 0, 3, 4, 8, 998, 999), lossAt(9, 6, 5, 0, 5, 7, 8)} {
		for _, set := range invalidSets() {
			for _, c := range []timing{{0, 1}, {5, 100}, {999, 1}, {999, 1998}} {
				expectNoAck(t, ackCall{l, set, c.now, c.delay})
			}
		}
	}
}

func TestPromise98InvalidTimeOrDelay(t *testing.T) {
	source := rand.New(rand.NewSource(98))
	for i, l := range sampleLosses() {
		if i%5 != 0 {
			continue
		}
		for _, set := range setsNear(source, l)[:6] {
			for _, wrong := range append(outsideFrom(999), math.MinInt+1998, math.MinInt+1) {
				expectNoAck(t, ackCall{l, set, wrong, 1})
				expectNoAck(t, ackCall{l, set, wrong, 1998})
			}
			for _, wrong := range noLossDelays {
				expectNoAck(t, ackCall{l, set, 0, wrong})
				expectNoAck(t, ackCall{l, set, 999, wrong})
			}
		}
	}
}

func TestPromise99Bytes(t *testing.T) {
	forLossSends(func(l impl.Loss, time int, size int) {
		if next, _, ok := impl.LossSend(l, time, size); ok {
			expectBytes(t, next, impl.LossBytes(l)+size)
		} else {
			expectBytes(t, next, impl.LossBytes(l))
		}
	})
	check := func(a ackCall) {
		r := acked(t, a)
		expectBytes(t, r.state, impl.LossBytes(a.state)-bytesOf(t, a.state, r.arrived)-bytesOf(t, a.state, r.lost))
	}
	forLossAcks(check)
	forSmallAcks(check)
}

func TestPromise99Examples(t *testing.T) {
	expectBytes(t, impl.LossNew(), 0)
	expectBytes(t, loss(1000, 999), 0)
	expectBytes(t, loss(9, 6, inFlight(8, 5, 1)), 1)
	expectBytes(t, loss(9, 6, inFlight(8, 5, 99)), 99)
	expectBytes(t, loss(9, 6, inFlight(0, 5, 1), inFlight(5, 5, 20), inFlight(8, 5, 99)), 120)
	l := loss(12, -1)
	for n := range 12 {
		l.Flight = append(l.Flight, inFlight(n, 5, 99))
		expectBytes(t, l, 99*(n+1))
	}
	r := acked(t, ackCall{l, rangeList(2, 3, 5, 5), 5, 10})
	if !slices.Equal(r.lost, []int{0, 1}) {
		t.Fatalf("LossAck lost %v", r.lost)
	}
	expectBytes(t, r.state, 99*7)
}

func TestPromise99InvalidState(t *testing.T) {
	expectBytes(t, impl.Loss{}, -1)
	for _, l := range invalidLosses() {
		expectBytes(t, l, -1)
	}
	for _, l := range sampleLosses() {
		total := 0
		for _, p := range l.Flight {
			total += p.Size
		}
		expectBytes(t, l, total)
	}
}

// sampleDelays are delays at and next to the ends of their range, and others.
var sampleDelays = []int{1, 2, 3, 45, 100, 112, 499, 500, 998, 999, 1000, 1001, 1123, 1997, 1998}

func TestPromise100LosesFirst(t *testing.T) {
	lost, kept := 0, 0
	check := func(l impl.Loss) {
		for _, delay := range sampleDelays {
			time := impl.LossTimer(l, delay)
			expectTimer(t, l, delay, expectedTimer(l, delay))
			before := slices.ContainsFunc(l.Flight, func(p impl.SentPacket) bool { return p.Number < l.Largest })
			if (time == -1) == before {
				t.Fatalf("LossTimer(%v, %d) returned %d", l, delay, time)
			}
			if time < 0 || time > 999 {
				continue
			}
			lost++
			if r := acked(t, ackCall{l, nil, time, delay}); len(r.lost) == 0 || r.lost[0] != l.Flight[0].Number {
				t.Fatalf("LossAck(%v, [], %d, %d) returned %v", l, time, delay, r)
			}
			// One unit earlier it is lost only by reordering.
			if l.Largest-l.Flight[0].Number < 3 && time > 0 {
				kept++
				if r := acked(t, ackCall{l, nil, time - 1, delay}); len(r.lost) != 0 {
					t.Fatalf("LossAck(%v, [], %d, %d) returned %v", l, time-1, delay, r)
				}
			}
		}
	}
	for _, l := range sampleLosses() {
		check(l)
	}
	forSmallLosses(check)
	if lost < 1000 || kept < 1000 {
		t.Errorf("only %d packets were lost, and %d were kept", lost, kept)
	}
}

func TestPromise100Examples(t *testing.T) {
	l := loss(9, 6, inFlight(4, 50, 10), inFlight(5, 60, 10), inFlight(8, 70, 10))
	for delay := 1; delay <= 1998; delay++ {
		expectTimer(t, l, delay, 50+delay)
		expectTimer(t, lossAt(9, 6, 0, 5), delay, delay)
		// It may exceed MaxTime.
		expectTimer(t, lossAt(9, 6, 999, 5), delay, 999+delay)
		// Nothing is in flight, or only packets above Largest.
		expectTimer(t, impl.LossNew(), delay, -1)
		expectTimer(t, loss(1000, 999), delay, -1)
		expectTimer(t, lossAt(9, 6, 50, 7, 8), delay, -1)
		expectTimer(t, lossAt(9, -1, 50, 0, 1), delay, -1)
		expectTimer(t, lossAt(1000, 998, 50, 999), delay, -1)
	}
	// One number below and above Largest, and so far below that it is lost already.
	expectTimer(t, lossAt(1000, 500, 50, 499), 100, 150)
	expectTimer(t, lossAt(1000, 500, 50, 501), 100, -1)
	expectTimer(t, lossAt(1000, 500, 50, 0, 501), 100, 150)
	expectTimer(t, lossAt(2, 1, 0, 0), 1, 1)
}

func TestPromise100Invalid(t *testing.T) {
	for _, l := range invalidLosses() {
		for _, delay := range append(sampleDelays, 0, -1, 1999) {
			expectTimer(t, l, delay, -1)
		}
	}
	for _, l := range append(sampleLosses(), impl.LossNew()) {
		for _, delay := range noLossDelays {
			expectTimer(t, l, delay, -1)
		}
	}
}

func TestPromise101AllNumbers(t *testing.T) {
	check := func(l impl.Loss) {
		set := numberSet{}.with(0, l.Next-1, true).ranges()
		for _, c := range []timing{{0, 1}, {0, 1998}, {6, 1}, {500, 100}, {999, 1}, {999, 1998}} {
			expectAck(t, ackCall{l, set, c.now, c.delay}, ackResult{loss(l.Next, l.Next-1), numbersInFlight(l), nil})
		}
	}
	for _, l := range sampleLosses() {
		check(l)
	}
	forSmallLosses(check)
}

func TestPromise101Examples(t *testing.T) {
	expectAck(t, ackCall{loss(0, -1), nil, 0, 1}, ackResult{state: loss(0, -1)})
	expectAck(t, ackCall{lossAt(1, -1, 5, 0), rangeList(0, 0), 5, 1}, ackResult{loss(1, 0), []int{0}, nil})
	expectAck(t, ackCall{lossAt(1000, -1, 0, 0, 500, 999), rangeList(0, 999), 999, 1}, ackResult{loss(1000, 999), []int{0, 500, 999}, nil})
	// The packets in flight alone suffice.
	expectAck(t, ackCall{lossAt(1000, 700, 0, 0, 500, 999), rangeList(0, 0, 500, 500, 999, 999), 999, 1}, ackResult{loss(1000, 999), []int{0, 500, 999}, nil})
	expectAck(t, ackCall{lossAt(1000, 999, 0, 0, 500, 998), rangeList(0, 0, 500, 500, 998, 998), 999, 1}, ackResult{loss(1000, 999), []int{0, 500, 998}, nil})
}

// withSpareFlight returns a state whose Flight has capacity that is not used.
func withSpareFlight(l impl.Loss) impl.Loss {
	return loss(l.Next, l.Largest, append(make([]impl.SentPacket, 0, len(l.Flight)+9), l.Flight...)...)
}

// overwriteFlight changes all memory of a state, with its spare capacity.
func overwriteFlight(l impl.Loss) {
	for i := range l.Flight[:cap(l.Flight)] {
		l.Flight[:cap(l.Flight)][i] = inFlight(-7, -7, -7)
	}
}

// overwriteNumbers changes all memory of a list, with its spare capacity.
func overwriteNumbers(list []int) {
	for i := range list[:cap(list)] {
		list[:cap(list)][i] = -7
	}
}

// lossCalls calls all functions of the chapter and returns the results that
// have memory.
func lossCalls(l impl.Loss, set []impl.Range) []ackResult {
	results := []ackResult{{state: impl.LossNew()}}
	impl.LossValid(l)
	impl.LossBytes(l)
	for _, time := range []int{0, 5, 999, 1000} {
		next, _, _ := impl.LossSend(l, time, 9)
		state, arrived, lost, _ := impl.LossAck(l, set, time, 5)
		results = append(results, ackResult{state: next}, ackResult{state, arrived, lost})
		impl.LossTimer(l, time)
	}
	return results
}

// copyResult returns a result in memory of its own.
func copyResult(r ackResult) ackResult {
	state := r.state
	state.Flight = slices.Clone(state.Flight)
	return ackResult{state, slices.Clone(r.arrived), slices.Clone(r.lost)}
}

func TestLossArgumentsStayAsTheyAreAndResultsShareNoMemory(t *testing.T) {
	source := rand.New(rand.NewSource(7))
	for _, sample := range append(sampleLosses(), invalidLosses()...) {
		l := withSpareFlight(sample)
		set := append(make([]impl.Range, 0, 20), randomSet(source, source.Intn(9), 1+min(max(l.Next, 0), 1000)/40)...)
		flight, ranges := slices.Clone(l.Flight[:cap(l.Flight)]), slices.Clone(set[:cap(set)])
		results, again := lossCalls(l, set), lossCalls(l, set)
		for i, r := range results {
			overwriteFlight(r.state)
			overwriteNumbers(r.arrived)
			overwriteNumbers(r.lost)
			for j, other := range again {
				if j > i && !sameResult(results[j], other) {
					t.Fatalf("results %d and %d of %v and %v share memory", i, j, l, set)
				}
			}
		}
		if !slices.Equal(l.Flight[:cap(l.Flight)], flight) || !slices.Equal(set[:cap(set)], ranges) {
			t.Fatalf("%v or %v was changed, or a result shares memory with it", l, set)
		}
	}
}

func TestLossPartsOfOneResultShareNoMemory(t *testing.T) {
	both := 0
	forLossAcks(func(a ackCall) {
		r := acked(t, a)
		want := copyResult(r)
		if len(r.arrived) > 0 && len(r.lost) > 0 {
			both++
		}
		overwriteNumbers(r.arrived)
		if !slices.Equal(r.lost, want.lost) {
			t.Fatalf("the numbers of LossAck%v share memory", a)
		}
		r = acked(t, a)
		overwriteNumbers(r.lost)
		if !slices.Equal(r.arrived, want.arrived) {
			t.Fatalf("the numbers of LossAck%v share memory", a)
		}
	})
	if both < 1000 {
		t.Errorf("only %d results have both acknowledged and lost packets", both)
	}
}
