package tests

import (
	"math"
	"math/rand"
	"slices"
	"testing"

	"loop.example/multipathtransport/impl"
)

// numberSet says of each packet number whether a set has it. It knows neither
// ranges nor their limit, so the tests can compare the program with it.
type numberSet [impl.MaxNumber + 1]bool

func numbersOf(lists ...[]impl.Range) numberSet {
	set := numberSet{}
	for _, l := range lists {
		for _, r := range l {
			for n := r.Low; n <= r.High; n++ {
				set[n] = true
			}
		}
	}
	return set
}

// ranges returns the runs of numbers that the set has.
func (s numberSet) ranges() []impl.Range {
	list := []impl.Range{}
	for n, has := range s {
		switch {
		case !has:
		case n > 0 && s[n-1]:
			list[len(list)-1].High = n
		default:
			list = append(list, impl.Range{Low: n, High: n})
		}
	}
	return list
}

func (s numberSet) has(n int) bool {
	return n >= 0 && n <= impl.MaxNumber && s[n]
}

func (s numberSet) count() int {
	count := 0
	for _, has := range s {
		if has {
			count++
		}
	}
	return count
}

// with returns the set with the numbers from low to high added or removed.
func (s numberSet) with(low int, high int, has bool) numberSet {
	for n := low; n <= high; n++ {
		s[n] = has
	}
	return s
}

// rangeList returns the ranges with these ends: Low, High, Low, High, ...
func rangeList(ends ...int) []impl.Range {
	list := []impl.Range{}
	for i := 0; i < len(ends); i += 2 {
		list = append(list, impl.Range{Low: ends[i], High: ends[i+1]})
	}
	return list
}

// spacedRanges returns count ranges of width numbers each, the first at start,
// with gap numbers between them.
func spacedRanges(count int, start int, width int, gap int) []impl.Range {
	list := []impl.Range{}
	for i := range count {
		low := start + i*(width+gap)
		list = append(list, impl.Range{Low: low, High: low + width - 1})
	}
	return list
}

// mirrored returns the set of n for all elements MaxNumber-n of l.
func mirrored(l []impl.Range) []impl.Range {
	list := []impl.Range{}
	for _, r := range slices.Backward(l) {
		list = append(list, impl.Range{Low: impl.MaxNumber - r.High, High: impl.MaxNumber - r.Low})
	}
	return list
}

// randomSet returns a set of count ranges. A spread of 1 makes all ranges and
// gaps one number long, and a greater one makes some of them longer.
func randomSet(random *rand.Rand, count int, spread int) []impl.Range {
	list, low := []impl.Range{}, random.Intn(spread)
	for range count {
		high := low + random.Intn(spread)
		list = append(list, impl.Range{Low: low, High: high})
		low = high + 2 + random.Intn(spread)
	}
	return list
}

// sampleSets returns sets of every permitted number of ranges, and all sets
// of a few numbers at either end.
func sampleSets() [][]impl.Range {
	sets := [][]impl.Range{nil, rangeList(0, impl.MaxNumber), rangeList(0, 0, impl.MaxNumber, impl.MaxNumber)}
	for bits := range 1 << 6 {
		set := numberSet{}
		for n := range 6 {
			set[n] = bits>>n&1 == 1
		}
		sets = append(sets, set.ranges(), mirrored(set.ranges()))
	}
	random := rand.New(rand.NewSource(4))
	for count := range impl.MaxRanges + 1 {
		for _, spread := range []int{1, 2, 3, 25} {
			set := randomSet(random, count, spread)
			sets = append(sets, set, mirrored(set))
		}
	}
	return sets
}

// fullSets returns sets of MaxRanges ranges.
func fullSets() [][]impl.Range {
	return slices.DeleteFunc(sampleSets(), func(l []impl.Range) bool { return len(l) < impl.MaxRanges })
}

// numbersNear returns the numbers at and near the ends of ranges of l, and at
// the ends of all numbers, ascending.
func numbersNear(l []impl.Range) []int {
	near := []int{0, 1, impl.MaxNumber / 2, impl.MaxNumber - 1, impl.MaxNumber}
	for _, r := range l {
		for d := -2; d <= 2; d++ {
			near = append(near, r.Low+d, r.High+d)
		}
	}
	near = slices.DeleteFunc(near, func(n int) bool { return n < 0 || n > impl.MaxNumber })
	slices.Sort(near)
	return slices.Compact(near)
}

// bounds are what RangesAdd and RangesRemove add and remove.
type bounds struct{ low, high int }

// sampleBounds returns valid bounds that lie between, across and at the ends
// of ranges of l: all of them for small sets, and some for large ones.
func sampleBounds(l []impl.Range) []bounds {
	random := rand.New(rand.NewSource(5))
	near, list := numbersNear(l), []bounds{}
	for _, low := range near {
		for _, high := range near {
			if low == high || low < high && (len(l) < 4 || random.Intn(20) == 0) {
				list = append(list, bounds{low, high})
			}
		}
	}
	return list
}

// forSetsAndBounds calls check for all sample sets and bounds.
func forSetsAndBounds(check func(l []impl.Range, low int, high int)) {
	for _, l := range sampleSets() {
		for _, b := range sampleBounds(l) {
			check(l, b.low, b.high)
		}
	}
}

// forPairsOfSets calls check for pairs of sample sets, each set with itself,
// with the next one and with some others.
func forPairsOfSets(check func(a []impl.Range, b []impl.Range)) {
	random := rand.New(rand.NewSource(6))
	sets := sampleSets()
	for i, a := range sets {
		check(a, a)
		check(a, sets[(i+1)%len(sets)])
		for range 30 {
			check(a, sets[random.Intn(len(sets))])
		}
	}
}

// invalidSets returns lists of ranges that are no sets.
func invalidSets() [][]impl.Range {
	return [][]impl.Range{
		rangeList(5, 4), rangeList(1, 0), rangeList(-1, 3), rangeList(-1, -1), rangeList(-5, -9),
		rangeList(0, 1000), rangeList(1000, 1000), rangeList(999, 998), rangeList(0, 0, 998, 1000),
		rangeList(math.MinInt, math.MaxInt), rangeList(math.MaxInt, math.MinInt),
		rangeList(math.MinInt, math.MinInt), rangeList(math.MaxInt, math.MaxInt),
		rangeList(0, math.MaxInt), rangeList(3, math.MaxInt, 7, 8), rangeList(3, math.MaxInt-1, 3, 4),
		rangeList(0, 5, math.MinInt, 7), rangeList(0, 5, math.MinInt+3, math.MinInt+3), rangeList(1<<32, 1<<32+5),
		rangeList(1, 2, 3, 3), rangeList(1, 2, 2, 3), rangeList(1, 9, 3, 4), rangeList(1, 2, 1, 2), rangeList(4, 5, 1, 2),
		rangeList(0, 0, 2, 1), rangeList(0, 0, 5, 4), rangeList(0, 0, 5, 5, 3, 3), rangeList(0, 0, 3, 5, 6, 7, 9, 9),
		rangeList(1, 2, 4, 5, -3, -2), rangeList(-3, -2, 1, 2), rangeList(0, 999, 1001, 1002), rangeList(0, 0, 0, 0),
		spacedRanges(impl.MaxRanges+1, 0, 1, 1), spacedRanges(impl.MaxRanges+1, 5, 3, 20), spacedRanges(40, 0, 2, 2),
		make([]impl.Range, impl.MaxRanges),
	}
}

// invalidBounds returns bounds that do not hold 0 <= low <= high <= MaxNumber.
func invalidBounds() []bounds {
	return []bounds{
		{1, 0}, {5, 4}, {999, 0}, {999, 998}, {-1, 0}, {-1, -1}, {-1, 999}, {-5, -9}, {0, 1000}, {999, 1000}, {1000, 1000},
		{1000, 999}, {5, -1}, {0, math.MaxInt}, {math.MinInt, 0}, {math.MinInt, math.MaxInt}, {math.MaxInt, math.MinInt},
		{math.MaxInt, math.MaxInt}, {math.MinInt, math.MinInt}, {1 << 32, 1<<32 + 5}, {0, 1<<32 + 5},
	}
}

// expectRanges checks what a function that returns a set and true or false
// returned: the wanted set, or nothing if that has too many ranges.
func expectRanges(t *testing.T, call string, got []impl.Range, ok bool, want []impl.Range) {
	t.Helper()
	if len(want) > impl.MaxRanges {
		expectNoRanges(t, call, got, ok)
	} else if !ok || !slices.Equal(got, want) {
		t.Fatalf("%s returned %v, %v, not %v", call, got, ok, want)
	}
}

func expectNoRanges(t *testing.T, call string, got []impl.Range, ok bool) {
	t.Helper()
	if ok || len(got) != 0 {
		t.Fatalf("%s returned %v, %v, not an empty slice and false", call, got, ok)
	}
}

func TestRangesConstants(t *testing.T) {
	if impl.MaxNumber != 999 || impl.MaxRanges != 16 {
		t.Error("MaxNumber is not 999, or MaxRanges is not 16")
	}
}

func TestRangesValidAndInvalid(t *testing.T) {
	for _, l := range sampleSets() {
		if !impl.RangesValid(l) {
			t.Errorf("RangesValid(%v) does not hold", l)
		}
	}
	for _, l := range [][]impl.Range{nil, {}, rangeList(0, 0), rangeList(999, 999), rangeList(0, 999), rangeList(0, 0, 2, 2), rangeList(0, 997, 999, 999)} {
		if !impl.RangesValid(l) {
			t.Errorf("RangesValid(%v) does not hold", l)
		}
	}
	for _, l := range invalidSets() {
		if impl.RangesValid(l) {
			t.Errorf("RangesValid(%v) holds", l)
		}
	}
}

func TestRangesHasEveryNumberOfTheSet(t *testing.T) {
	for _, l := range sampleSets() {
		set := numbersOf(l)
		for n := -3; n <= impl.MaxNumber+3; n++ {
			if impl.RangesHas(l, n) != set.has(n) {
				t.Fatalf("RangesHas(%v, %d) is %v", l, n, !set.has(n))
			}
		}
		for _, n := range []int{math.MinInt, math.MaxInt, 1 << 32} {
			if impl.RangesHas(l, n) {
				t.Fatalf("RangesHas(%v, %d) holds", l, n)
			}
		}
	}
}

func TestPromise11Add(t *testing.T) {
	forSetsAndBounds(func(l []impl.Range, low int, high int) {
		sum, ok := impl.RangesAdd(l, low, high)
		if !ok {
			return
		}
		for _, i := range append(numbersNear(append(slices.Clone(l), impl.Range{Low: low, High: high})), -1, impl.MaxNumber+1) {
			if impl.RangesHas(sum, i) != (numbersOf(l).has(i) || low <= i && i <= high) {
				t.Fatalf("RangesAdd(%v, %d, %d) returned %v, which is wrong about %d", l, low, high, sum, i)
			}
		}
	})
}

func TestAddReturnsTheExpectedRanges(t *testing.T) {
	forSetsAndBounds(func(l []impl.Range, low int, high int) {
		got, ok := impl.RangesAdd(l, low, high)
		expectRanges(t, "RangesAdd", got, ok, numbersOf(l).with(low, high, true).ranges())
	})
}

func TestAddExamples(t *testing.T) {
	full := spacedRanges(impl.MaxRanges, 10, 1, 1)
	for _, c := range []struct {
		l         []impl.Range
		low, high int
		want      []impl.Range
	}{
		{nil, 0, 0, rangeList(0, 0)},
		{nil, 999, 999, rangeList(999, 999)},
		{nil, 0, 999, rangeList(0, 999)},
		{rangeList(1, 2, 4, 5), 3, 3, rangeList(1, 5)},
		{rangeList(1, 2), 3, 4, rangeList(1, 4)},
		{rangeList(3, 4), 1, 2, rangeList(1, 4)},
		{rangeList(1, 2), 4, 4, rangeList(1, 2, 4, 4)},
		{rangeList(3, 4), 0, 1, rangeList(0, 1, 3, 4)},
		{rangeList(1, 9), 3, 4, rangeList(1, 9)},
		{rangeList(1, 9), 1, 9, rangeList(1, 9)},
		{rangeList(3, 4, 6, 7, 9, 9), 2, 8, rangeList(2, 9)},
		{rangeList(3, 4, 6, 7, 9, 9), 0, 999, rangeList(0, 999)},
		{rangeList(3, 4, 10, 12), 6, 8, rangeList(3, 4, 6, 8, 10, 12)},
		{full, 11, 11, slices.Concat(rangeList(10, 12), full[2:])},
		{full, 9, 9, slices.Concat(rangeList(9, 10), full[1:])},
		{full, 41, 41, slices.Concat(full[:15], rangeList(40, 41))},
		{full, 8, 8, spacedRanges(impl.MaxRanges+1, 8, 1, 1)},
		{full, 42, 42, spacedRanges(impl.MaxRanges+1, 10, 1, 1)},
		{full[:15], 40, 40, full},
		{full, 0, 999, rangeList(0, 999)},
	} {
		got, ok := impl.RangesAdd(c.l, c.low, c.high)
		expectRanges(t, "RangesAdd", got, ok, c.want)
	}
}

func TestPromise12AddTwice(t *testing.T) {
	forSetsAndBounds(func(l []impl.Range, low int, high int) {
		if once, ok := impl.RangesAdd(l, low, high); ok {
			twice, ok := impl.RangesAdd(once, low, high)
			expectRanges(t, "RangesAdd of RangesAdd", twice, ok, once)
		}
	})
}

func TestPromise13Remove(t *testing.T) {
	forSetsAndBounds(func(l []impl.Range, low int, high int) {
		rest, ok := impl.RangesRemove(l, low, high)
		if !ok {
			return
		}
		for _, i := range append(numbersNear(append(slices.Clone(l), impl.Range{Low: low, High: high})), -1, impl.MaxNumber+1) {
			if impl.RangesHas(rest, i) != (numbersOf(l).has(i) && !(low <= i && i <= high)) {
				t.Fatalf("RangesRemove(%v, %d, %d) returned %v, which is wrong about %d", l, low, high, rest, i)
			}
		}
	})
}

func TestRemoveReturnsTheExpectedRanges(t *testing.T) {
	forSetsAndBounds(func(l []impl.Range, low int, high int) {
		got, ok := impl.RangesRemove(l, low, high)
		expectRanges(t, "RangesRemove", got, ok, numbersOf(l).with(low, high, false).ranges())
	})
}

func TestRemoveExamples(t *testing.T) {
	full := spacedRanges(impl.MaxRanges, 10, 3, 1)
	for _, c := range []struct {
		l         []impl.Range
		low, high int
		want      []impl.Range
	}{
		{nil, 0, 0, nil},
		{nil, 0, 999, nil},
		{rangeList(1, 5), 3, 3, rangeList(1, 2, 4, 5)},
		{rangeList(1, 5), 1, 1, rangeList(2, 5)},
		{rangeList(1, 5), 5, 5, rangeList(1, 4)},
		{rangeList(1, 5), 1, 5, nil},
		{rangeList(1, 5), 0, 9, nil},
		{rangeList(1, 5), 2, 4, rangeList(1, 1, 5, 5)},
		{rangeList(1, 5), 0, 0, rangeList(1, 5)},
		{rangeList(1, 5), 6, 6, rangeList(1, 5)},
		{rangeList(4, 4), 4, 4, nil},
		{rangeList(1, 2, 4, 5), 3, 3, rangeList(1, 2, 4, 5)},
		{rangeList(1, 3, 5, 7, 9, 11), 3, 9, rangeList(1, 2, 10, 11)},
		{rangeList(1, 3, 5, 7, 9, 11), 2, 10, rangeList(1, 1, 11, 11)},
		{rangeList(0, 999), 0, 0, rangeList(1, 999)},
		{rangeList(0, 999), 999, 999, rangeList(0, 998)},
		{rangeList(0, 999), 500, 500, rangeList(0, 499, 501, 999)},
		{full, 11, 11, slices.Concat(rangeList(10, 10, 12, 12), full[1:])},
		{full, 71, 71, slices.Concat(full[:15], rangeList(70, 70, 72, 72))},
		{full, 10, 11, slices.Concat(rangeList(12, 12), full[1:])},
		{full, 11, 15, slices.Concat(rangeList(10, 10, 16, 16), full[2:])},
		{full, 10, 12, full[1:]},
		{full, 13, 13, full},
		{full[1:], 15, 15, slices.Concat(rangeList(14, 14, 16, 16), full[2:])},
		{full, 0, 999, nil},
	} {
		got, ok := impl.RangesRemove(c.l, c.low, c.high)
		expectRanges(t, "RangesRemove", got, ok, c.want)
	}
}

func TestPromise14RemoveOfAdd(t *testing.T) {
	forSetsAndBounds(func(l []impl.Range, low int, high int) {
		sum, added := impl.RangesAdd(l, low, high)
		want, removed := impl.RangesRemove(l, low, high)
		if got, ok := impl.RangesRemove(sum, low, high); added && removed && ok {
			expectRanges(t, "RangesRemove of RangesAdd", got, ok, want)
		}
	})
}

func TestPromise15Union(t *testing.T) {
	forPairsOfSets(func(a []impl.Range, b []impl.Range) {
		union, ok := impl.RangesUnion(a, b)
		if !ok {
			return
		}
		for _, i := range append(numbersNear(slices.Concat(a, b)), -1, impl.MaxNumber+1) {
			if impl.RangesHas(union, i) != (numbersOf(a).has(i) || numbersOf(b).has(i)) {
				t.Fatalf("RangesUnion(%v, %v) returned %v, which is wrong about %d", a, b, union, i)
			}
		}
	})
}

func TestUnionReturnsTheExpectedRanges(t *testing.T) {
	forPairsOfSets(func(a []impl.Range, b []impl.Range) {
		got, ok := impl.RangesUnion(a, b)
		expectRanges(t, "RangesUnion", got, ok, numbersOf(a, b).ranges())
	})
}

func TestUnionExamples(t *testing.T) {
	full := spacedRanges(impl.MaxRanges, 10, 1, 3)
	for _, c := range []struct{ a, b, want []impl.Range }{
		{nil, nil, nil},
		{nil, rangeList(4, 4), rangeList(4, 4)},
		{rangeList(1, 2), rangeList(3, 4), rangeList(1, 4)},
		{rangeList(1, 2), rangeList(4, 4), rangeList(1, 2, 4, 4)},
		{rangeList(1, 9), rangeList(2, 3, 5, 6), rangeList(1, 9)},
		{rangeList(1, 3), rangeList(1, 9), rangeList(1, 9)},
		{rangeList(1, 3, 9, 9), rangeList(3, 7), rangeList(1, 7, 9, 9)},
		{rangeList(0, 0), rangeList(999, 999), rangeList(0, 0, 999, 999)},
		{full, full, full},
		{full[:8], full[8:], full},
		{full, rangeList(8, 8), slices.Concat(rangeList(8, 8), full)},
		{full, rangeList(72, 72), slices.Concat(full, rangeList(72, 72))},
		// Range by range, the first of these unions would have too many
		// ranges on the way, and the second one at its first range.
		{full, rangeList(8, 8, 10, 80), rangeList(8, 8, 10, 80)},
		{full, spacedRanges(impl.MaxRanges, 11, 3, 1), rangeList(10, 73)},
		{full, spacedRanges(impl.MaxRanges, 12, 1, 3), spacedRanges(2*impl.MaxRanges, 10, 1, 1)},
		{full, spacedRanges(impl.MaxRanges, 500, 1, 1), slices.Concat(full, spacedRanges(impl.MaxRanges, 500, 1, 1))},
	} {
		got, ok := impl.RangesUnion(c.a, c.b)
		expectRanges(t, "RangesUnion", got, ok, c.want)
	}
}

func TestPromise16UnionInAnyOrder(t *testing.T) {
	forPairsOfSets(func(a []impl.Range, b []impl.Range) {
		one, oneOk := impl.RangesUnion(a, b)
		other, otherOk := impl.RangesUnion(b, a)
		if oneOk != otherOk || !slices.Equal(one, other) {
			t.Fatalf("the unions of %v and %v are %v, %v and %v, %v", a, b, one, oneOk, other, otherOk)
		}
		same, ok := impl.RangesUnion(a, a)
		expectRanges(t, "RangesUnion with itself", same, ok, a)
	})
}

func TestPromise17Gaps(t *testing.T) {
	for _, l := range sampleSets() {
		gaps, set := impl.RangesGaps(l), numbersOf(l)
		for i := -2; i <= impl.MaxNumber+2; i++ {
			between := len(l) > 0 && l[0].Low < i && i < l[len(l)-1].High
			if impl.RangesHas(gaps, i) != (between && !set.has(i)) {
				t.Fatalf("RangesGaps(%v) returned %v, which is wrong about %d", l, gaps, i)
			}
		}
		if !impl.RangesValid(gaps) {
			t.Fatalf("RangesGaps(%v) returned %v, which is no set", l, gaps)
		}
	}
}

func TestGapsExamples(t *testing.T) {
	for _, c := range []struct{ l, want []impl.Range }{
		{nil, nil},
		{rangeList(5, 9), nil},
		{rangeList(0, 999), nil},
		{rangeList(1, 2, 7, 7), rangeList(3, 6)},
		{rangeList(1, 2, 4, 5), rangeList(3, 3)},
		{rangeList(0, 0, 999, 999), rangeList(1, 998)},
		{rangeList(0, 0, 2, 2, 5, 5), rangeList(1, 1, 3, 4)},
		{spacedRanges(impl.MaxRanges, 0, 1, 1), spacedRanges(impl.MaxRanges-1, 1, 1, 1)},
	} {
		if got := impl.RangesGaps(c.l); !slices.Equal(got, c.want) {
			t.Errorf("RangesGaps(%v) returned %v, not %v", c.l, got, c.want)
		}
	}
}

func TestPromise18UnionWithGaps(t *testing.T) {
	for _, l := range sampleSets() {
		got, ok := impl.RangesUnion(l, impl.RangesGaps(l))
		want := []impl.Range{}
		if len(l) > 0 {
			want = rangeList(l[0].Low, l[len(l)-1].High)
		}
		expectRanges(t, "RangesUnion with RangesGaps", got, ok, want)
	}
}

func TestPromise19CountOfAdd(t *testing.T) {
	for _, l := range sampleSets() {
		before := impl.RangesCount(l)
		if before != numbersOf(l).count() {
			t.Fatalf("RangesCount(%v) is %d", l, before)
		}
		for n := range impl.MaxNumber + 1 {
			want := before
			if !impl.RangesHas(l, n) {
				want++
			}
			if sum, ok := impl.RangesAdd(l, n, n); ok && impl.RangesCount(sum) != want {
				t.Fatalf("RangesCount(%v) is %d after %d was added to %d numbers", sum, impl.RangesCount(sum), n, before)
			}
		}
	}
}

func TestPromise20CountOfRemove(t *testing.T) {
	forSetsAndBounds(func(l []impl.Range, low int, high int) {
		removed := 0
		for n := low; n <= high; n++ {
			if numbersOf(l).has(n) {
				removed++
			}
		}
		if rest, ok := impl.RangesRemove(l, low, high); ok && impl.RangesCount(l)-impl.RangesCount(rest) != removed {
			t.Fatalf("RangesRemove(%v, %d, %d) returned %v, which is not %d numbers less", l, low, high, rest, removed)
		}
	})
}

func TestPromise21AddInAnyOrder(t *testing.T) {
	random := rand.New(rand.NewSource(7))
	for _, l := range sampleSets() {
		backward := slices.Clone(l)
		slices.Reverse(backward)
		for _, order := range [][]impl.Range{l, backward, shuffled(random, l), shuffled(random, l)} {
			sum := []impl.Range{}
			for _, r := range order {
				next, ok := impl.RangesAdd(sum, r.Low, r.High)
				if !ok {
					t.Fatalf("RangesAdd(%v, %d, %d) failed", sum, r.Low, r.High)
				}
				sum = next
			}
			expectRanges(t, "RangesAdd, range by range,", sum, true, l)
		}
	}
}

func shuffled(random *rand.Rand, l []impl.Range) []impl.Range {
	order := slices.Clone(l)
	random.Shuffle(len(order), func(i int, j int) { order[i], order[j] = order[j], order[i] })
	return order
}

func TestPromise22WithoutOneAndWithOneRepeated(t *testing.T) {
	for _, l := range sampleSets() {
		for i, r := range l {
			if without := slices.Delete(slices.Clone(l), i, i+1); !impl.RangesValid(without) {
				t.Fatalf("RangesValid(%v) does not hold", without)
			}
			for at := range len(l) + 1 {
				if repeated := slices.Insert(slices.Clone(l), at, r); impl.RangesValid(repeated) {
					t.Fatalf("RangesValid(%v) holds", repeated)
				}
			}
		}
	}
}

func TestPromise23WhenAddAndRemoveFail(t *testing.T) {
	forSetsAndBounds(func(l []impl.Range, low int, high int) {
		if _, ok := impl.RangesAdd(l, low, high); !ok && len(l) < impl.MaxRanges {
			t.Fatalf("RangesAdd(%v, %d, %d) failed", l, low, high)
		}
		split := slices.ContainsFunc(l, func(r impl.Range) bool { return r.Low < low && high < r.High })
		if _, ok := impl.RangesRemove(l, low, high); !ok && !(len(l) == impl.MaxRanges && split) {
			t.Fatalf("RangesRemove(%v, %d, %d) failed", l, low, high)
		}
	})
}

func TestOneRangeTooMany(t *testing.T) {
	for _, l := range fullSets() {
		for _, b := range sampleBounds(l) {
			apart := !slices.ContainsFunc(l, func(r impl.Range) bool { return b.low <= r.High+1 && r.Low-1 <= b.high })
			if got, ok := impl.RangesAdd(l, b.low, b.high); apart {
				expectNoRanges(t, "RangesAdd", got, ok)
			}
			if got, ok := impl.RangesUnion(rangeList(b.low, b.high), l); apart {
				expectNoRanges(t, "RangesUnion", got, ok)
			}
			split := slices.ContainsFunc(l, func(r impl.Range) bool { return r.Low < b.low && b.high < r.High })
			if got, ok := impl.RangesRemove(l, b.low, b.high); split {
				expectNoRanges(t, "RangesRemove", got, ok)
			}
		}
	}
}

func TestNoSet(t *testing.T) {
	for _, l := range invalidSets() {
		for _, n := range []int{math.MinInt, -3, -1, 0, 1, 2, 3, 4, 5, 7, 500, 998, 999, 1000, 1001, math.MaxInt} {
			if impl.RangesHas(l, n) {
				t.Errorf("RangesHas(%v, %d) holds", l, n)
			}
		}
		for _, b := range []bounds{{0, 0}, {3, 3}, {0, 999}, {999, 999}, {5, 4}, {-1, 1000}} {
			got, ok := impl.RangesAdd(l, b.low, b.high)
			expectNoRanges(t, "RangesAdd of no set", got, ok)
			got, ok = impl.RangesRemove(l, b.low, b.high)
			expectNoRanges(t, "RangesRemove of no set", got, ok)
		}
		for _, other := range [][]impl.Range{nil, rangeList(1, 2), rangeList(0, 999), l} {
			got, ok := impl.RangesUnion(l, other)
			expectNoRanges(t, "RangesUnion of no set", got, ok)
			got, ok = impl.RangesUnion(other, l)
			expectNoRanges(t, "RangesUnion with no set", got, ok)
		}
		if got := impl.RangesGaps(l); len(got) != 0 {
			t.Errorf("RangesGaps(%v) returned %v", l, got)
		}
		if got := impl.RangesCount(l); got != -1 {
			t.Errorf("RangesCount(%v) returned %d", l, got)
		}
	}
}

func TestInvalidBounds(t *testing.T) {
	for _, l := range [][]impl.Range{nil, rangeList(1, 2, 4, 5), rangeList(0, 999), fullSets()[0]} {
		for _, b := range invalidBounds() {
			got, ok := impl.RangesAdd(l, b.low, b.high)
			expectNoRanges(t, "RangesAdd with invalid bounds", got, ok)
			got, ok = impl.RangesRemove(l, b.low, b.high)
			expectNoRanges(t, "RangesRemove with invalid bounds", got, ok)
		}
	}
}

func TestCountExamples(t *testing.T) {
	for _, c := range []struct {
		l    []impl.Range
		want int
	}{
		{nil, 0},
		{rangeList(0, 0), 1},
		{rangeList(999, 999), 1},
		{rangeList(1, 2, 4, 5), 4},
		{rangeList(0, 999), 1000},
		{spacedRanges(impl.MaxRanges, 0, 3, 2), 48},
	} {
		if got := impl.RangesCount(c.l); got != c.want {
			t.Errorf("RangesCount(%v) is %d, not %d", c.l, got, c.want)
		}
	}
}

// overwrite changes all memory that belongs to l, with its spare capacity.
func overwrite(l []impl.Range) {
	for i := range l[:cap(l)] {
		l[:cap(l)][i] = impl.Range{Low: -7, High: -7}
	}
}

func TestRangesArgumentsStayAsTheyAre(t *testing.T) {
	a := append(make([]impl.Range, 0, 40), spacedRanges(20, 2, 3, 1)...)
	b := append(make([]impl.Range, 0, 40), spacedRanges(20, 5, 1, 5)...)
	beforeA, beforeB := slices.Clone(a[:cap(a)]), slices.Clone(b[:cap(b)])
	for size := range len(a) + 1 {
		for _, l := range [][]impl.Range{a[:size], b[:size]} {
			impl.RangesValid(l)
			impl.RangesHas(l, 3)
			impl.RangesAdd(l, 1, 20)
			impl.RangesRemove(l, 3, 3)
			impl.RangesRemove(l, 0, 20)
			impl.RangesUnion(a[:size/2], l)
			impl.RangesUnion(l, b[:size/2])
			impl.RangesGaps(l)
			impl.RangesCount(l)
		}
	}
	if !slices.Equal(a[:cap(a)], beforeA) || !slices.Equal(b[:cap(b)], beforeB) {
		t.Error("an argument was changed")
	}
}

func TestRangesResultsShareNoMemory(t *testing.T) {
	call := func(name string, l []impl.Range) []impl.Range {
		got := []impl.Range{}
		switch name {
		case "add":
			got, _ = impl.RangesAdd(l, 20, 20)
		case "add nothing new":
			got, _ = impl.RangesAdd(l, 1, 1)
		case "remove":
			got, _ = impl.RangesRemove(l, 1, 1)
		case "remove nothing":
			got, _ = impl.RangesRemove(l, 900, 900)
		case "union":
			got, _ = impl.RangesUnion(l, nil)
		case "union with":
			got, _ = impl.RangesUnion(nil, l)
		case "gaps":
			got = impl.RangesGaps(l)
		}
		return got
	}
	for _, name := range []string{"add", "add nothing new", "remove", "remove nothing", "union", "union with", "gaps"} {
		l := append(make([]impl.Range, 0, 9), rangeList(1, 2, 5, 6, 9, 9)...)
		before := slices.Clone(l[:cap(l)])
		first, second := call(name, l), call(name, l)
		want := slices.Clone(first)
		overwrite(first)
		if !slices.Equal(second, want) || !slices.Equal(call(name, l), want) {
			t.Errorf("two results share memory: %s", name)
		}
		if !slices.Equal(l[:cap(l)], before) {
			t.Errorf("a result shares memory with an argument: %s", name)
		}
	}
}
