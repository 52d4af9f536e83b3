package tests

import (
	"math"
	"math/rand"
	"slices"
	"testing"

	"loop.example/multipathtransport/impl"
)

// The fields of the sample windows: the ends of their ranges, next to them,
// those whose quotients are even and rounded down, and others.
var (
	windowSizes   = []int{1, 2, 3, 7, 8, 10, 20, 31, 32, 33, 62, 63, 64}
	windowCredits = []int{0, 1, 15, 499, 500, 501, 984, 985, 998, 999}
	windowRtts    = []int{1, 2, 3, 9, 10, 32, 50, 64, 81, 97, 98, 99}
)

// The values that are out of the range of each field.
var (
	noWindowSizes   = append(outsideFrom(64), 0, -64, -65, 65+64, 1<<32+1, math.MinInt+1)
	noWindowCredits = append(outsideFrom(999), -999, -1000, 1001, 1999, 2000, math.MinInt+1)
	noWindowRtts    = append(outsideFrom(99), 0, -99, -100, 199, 1<<32+1, math.MinInt+1)
)

func window(size int, threshold int, credit int, rtt int) impl.Window {
	return impl.Window{Size: size, Threshold: threshold, Credit: credit, Rtt: rtt}
}

// paths returns windows of these sizes and round-trip times in congestion
// avoidance, without credit.
func paths(sizesAndRtts ...int) []impl.Window {
	list := []impl.Window{}
	for pair := range slices.Chunk(sizesAndRtts, 2) {
		list = append(list, window(pair[0], 1, 0, pair[1]))
	}
	return list
}

// equalWindows returns count windows that are equal to w.
func equalWindows(count int, w impl.Window) []impl.Window {
	return slices.Repeat([]impl.Window{w}, count)
}

// withWindow returns a list with w at index i.
func withWindow(list []impl.Window, i int, w impl.Window) []impl.Window {
	next := slices.Clone(list)
	next[i] = w
	return next
}

func reversedWindows(list []impl.Window) []impl.Window {
	next := slices.Clone(list)
	slices.Reverse(next)
	return next
}

// expectedWindowsValid checks each rule of the specification on its own.
func expectedWindowsValid(list []impl.Window) bool {
	valid := 1 <= len(list) && len(list) <= 4
	for _, w := range list {
		valid = valid && 1 <= w.Size && w.Size <= 64 && 1 <= w.Threshold && w.Threshold <= 64
		valid = valid && 0 <= w.Credit && w.Credit <= 999 && 1 <= w.Rtt && w.Rtt <= 99
	}
	return valid
}

// quotients returns what an increase is computed from: best, the sum, and both
// quotients of which it is the minimum.
func quotients(list []impl.Window, i int) (best int, sum int, coupled int, alone int) {
	for _, w := range list {
		if rate := w.Size * 100000000 / (w.Rtt * w.Rtt); rate > best {
			best = rate
		}
		sum += w.Size * 10000 / w.Rtt
	}
	return best, sum, 1000 * best / (sum * sum), 1000 / list[i].Size
}

// expectedIncrease follows the sentences of the specification for valid arguments.
func expectedIncrease(list []impl.Window, i int) int {
	_, _, coupled, alone := quotients(list, i)
	if coupled < alone {
		return coupled
	}
	return alone
}

// expectedWindowAck follows the sentences of the specification for valid arguments.
func expectedWindowAck(list []impl.Window, i int) []impl.Window {
	w := list[i]
	if w.Size < w.Threshold {
		return withWindow(list, i, window(w.Size+1, w.Threshold, w.Credit, w.Rtt))
	}
	credit, size := w.Credit+expectedIncrease(list, i), w.Size
	if credit >= 1000 {
		credit -= 1000
		size++
		if size > 64 {
			size = 64
		}
	}
	return withWindow(list, i, window(size, w.Threshold, credit, w.Rtt))
}

// expectedWindowLoss follows the sentences of the specification for valid arguments.
func expectedWindowLoss(list []impl.Window, i int) []impl.Window {
	half := list[i].Size / 2
	if half < 1 {
		half = 1
	}
	return withWindow(list, i, window(half, half, 0, list[i].Rtt))
}

func expectedTotal(list []impl.Window) int {
	total := 0
	for _, w := range list {
		total += w.Size
	}
	return total
}

// randomWindow returns a window whose fields are sample values or any values.
func randomWindow(source *rand.Rand) impl.Window {
	if source.Intn(2) == 0 {
		return window(1+source.Intn(64), 1+source.Intn(64), source.Intn(1000), 1+source.Intn(99))
	}
	pick := func(list []int) int { return list[source.Intn(len(list))] }
	return window(pick(windowSizes), pick(windowSizes), pick(windowCredits), pick(windowRtts))
}

// sampleWindows returns valid lists: all combinations of sample sizes and
// round-trip times for one window, and lists of one to four windows, equal or
// not, with windows at the ends of all ranges.
func sampleWindows() [][]impl.Window {
	source, list := rand.New(rand.NewSource(23)), [][]impl.Window{}
	for _, size := range windowSizes {
		for _, rtt := range windowRtts {
			w := window(size, 1+source.Intn(64), source.Intn(1000), rtt)
			for count := 1; count <= 4; count++ {
				list = append(list, equalWindows(count, w))
			}
		}
	}
	lowest, highest := window(1, 1, 0, 1), window(64, 64, 999, 99)
	fastest, slowest := window(64, 1, 999, 1), window(1, 64, 0, 99)
	for _, a := range []impl.Window{lowest, highest, fastest, slowest} {
		for _, b := range []impl.Window{lowest, highest, fastest, slowest} {
			list = append(list, []impl.Window{a, b}, []impl.Window{a, b, b}, []impl.Window{b, a, b}, []impl.Window{a, b, a, b}, []impl.Window{b, b, b, a})
		}
	}
	for range 2000 {
		windows := []impl.Window{}
		for range 1 + source.Intn(4) {
			windows = append(windows, randomWindow(source))
		}
		list = append(list, windows)
	}
	return list
}

// forWindows calls check for all paths of all sample lists.
func forWindows(check func(list []impl.Window, i int)) {
	for _, list := range sampleWindows() {
		for i := range list {
			check(list, i)
		}
	}
}

// forPairsOfPaths calls check for both paths of pairs of windows: all sizes,
// with sample round-trip times.
func forPairsOfPaths(check func(list []impl.Window, i int)) {
	for size := 1; size <= 64; size++ {
		for other := 1; other <= 64; other++ {
			for _, rtt := range windowRtts {
				for _, second := range windowRtts {
					list := paths(size, rtt, other, second)
					check(list, 0)
					check(list, 1)
				}
			}
		}
	}
}

// forWindowAcks calls check for all paths of all sample lists, with sizes
// below, at and above the threshold of the path, and credits that stay below
// CreditUnit, reach it and exceed it.
func forWindowAcks(check func(list []impl.Window, i int)) {
	forWindows(func(list []impl.Window, i int) {
		w, increase := list[i], expectedIncrease(list, i)
		for _, threshold := range inside(1, 64, 1, w.Size-1, w.Size, w.Size+1, 64, w.Threshold) {
			for _, credit := range inside(0, 999, 0, 998-increase, 999-increase, 1000-increase, 1001-increase, 999, w.Credit) {
				check(withWindow(list, i, window(w.Size, threshold, credit, w.Rtt)), i)
			}
		}
	})
}

// forWindowRuns calls check for each step of random runs of acknowledgements
// and, now and then, losses, on any of the paths.
func forWindowRuns(t *testing.T, check func(list []impl.Window, i int, isLoss bool)) {
	t.Helper()
	source := rand.New(rand.NewSource(2323))
	for range 200 {
		list := []impl.Window{}
		for range 1 + source.Intn(4) {
			list = append(list, randomWindow(source))
		}
		rare := []int{3, 30, 300}[source.Intn(3)]
		for range 400 {
			i, isLoss := source.Intn(len(list)), source.Intn(rare) == 0
			check(list, i, isLoss)
			if isLoss {
				list = afterLoss(t, list, i)
			} else {
				list = afterAck(t, list, i)
			}
		}
	}
}

// invalidWindows returns lists that are valid but for one thing.
func invalidWindows() [][]impl.Window {
	list := [][]impl.Window{nil, {}}
	for _, w := range []impl.Window{window(1, 1, 0, 1), window(64, 64, 999, 99), window(10, 5, 0, 20)} {
		for _, count := range []int{5, 6, 8, 64, 100, 257} {
			list = append(list, equalWindows(count, w))
		}
		list = append(list, append(equalWindows(4, w), impl.Window{}), append([]impl.Window{{}}, equalWindows(4, w)...))
	}
	at := func(change func(w *impl.Window)) {
		for count := 1; count <= 4; count++ {
			for i := range count {
				windows := []impl.Window{window(10, 5, 500, 20), window(1, 1, 0, 1), window(64, 64, 999, 99), window(7, 33, 1, 50)}[:count]
				change(&windows[i])
				list = append(list, windows)
			}
		}
	}
	at(func(w *impl.Window) { *w = impl.Window{} })
	for _, wrong := range noWindowSizes {
		at(func(w *impl.Window) { w.Size = wrong })
		at(func(w *impl.Window) { w.Threshold = wrong })
		at(func(w *impl.Window) { w.Size, w.Threshold = wrong, wrong })
	}
	for _, wrong := range noWindowCredits {
		at(func(w *impl.Window) { w.Credit = wrong })
	}
	for _, wrong := range noWindowRtts {
		at(func(w *impl.Window) { w.Rtt = wrong })
	}
	return list
}

// afterAck returns the windows after WindowAck, and fails the test if there are none.
func afterAck(t *testing.T, list []impl.Window, i int) []impl.Window {
	t.Helper()
	next, ok := impl.WindowAck(list, i)
	if !ok || len(next) != len(list) {
		t.Fatalf("WindowAck(%v, %d) returned %v, %t", list, i, next, ok)
	}
	return next
}

// afterLoss returns the windows after WindowLoss, and fails the test if there are none.
func afterLoss(t *testing.T, list []impl.Window, i int) []impl.Window {
	t.Helper()
	next, ok := impl.WindowLoss(list, i)
	if !ok || len(next) != len(list) {
		t.Fatalf("WindowLoss(%v, %d) returned %v, %t", list, i, next, ok)
	}
	return next
}

func expectWindowsValid(t *testing.T, list []impl.Window, want bool) {
	t.Helper()
	if impl.WindowsValid(list) != want {
		t.Fatalf("WindowsValid(%v) returned %t", list, !want)
	}
}

func expectIncrease(t *testing.T, list []impl.Window, i int, want int) {
	t.Helper()
	if got := impl.WindowIncrease(list, i); got != want {
		t.Fatalf("WindowIncrease(%v, %d) returned %d, want %d", list, i, got, want)
	}
}

func expectWindowAck(t *testing.T, list []impl.Window, i int, want []impl.Window) {
	t.Helper()
	if next := afterAck(t, list, i); !slices.Equal(next, want) {
		t.Fatalf("WindowAck(%v, %d) returned %v, want %v", list, i, next, want)
	}
}

func expectWindowLoss(t *testing.T, list []impl.Window, i int, want []impl.Window) {
	t.Helper()
	if next := afterLoss(t, list, i); !slices.Equal(next, want) {
		t.Fatalf("WindowLoss(%v, %d) returned %v, want %v", list, i, next, want)
	}
}

func expectTotal(t *testing.T, list []impl.Window, want int) {
	t.Helper()
	if got := impl.WindowTotal(list); got != want {
		t.Fatalf("WindowTotal(%v) returned %d, want %d", list, got, want)
	}
}

// expectNoPath checks that the functions of one path fail.
func expectNoPath(t *testing.T, list []impl.Window, i int) {
	t.Helper()
	expectIncrease(t, list, i, -1)
	if next, ok := impl.WindowAck(list, i); ok || len(next) != 0 {
		t.Fatalf("WindowAck(%v, %d) returned %v, %t", list, i, next, ok)
	}
	if next, ok := impl.WindowLoss(list, i); ok || len(next) != 0 {
		t.Fatalf("WindowLoss(%v, %d) returned %v, %t", list, i, next, ok)
	}
}

// expectOnlyChanged checks that only window i differs, and not in its
// round-trip time.
func expectOnlyChanged(t *testing.T, list []impl.Window, i int, next []impl.Window) {
	t.Helper()
	if len(next) != len(list) || next[i].Rtt != list[i].Rtt || !slices.Equal(withWindow(next, i, list[i]), list) {
		t.Fatalf("path %d changed %v to %v", i, list, next)
	}
}

func TestWindowConstants(t *testing.T) {
	if impl.MaxWindow != 64 || impl.MaxPaths != 4 || impl.MaxRtt != 99 || impl.CreditUnit != 1000 {
		t.Error("MaxWindow is not 64, MaxPaths is not 4, MaxRtt is not 99, or CreditUnit is not 1000")
	}
}

func TestWindowsValidExamples(t *testing.T) {
	for _, w := range []impl.Window{
		window(10, 5, 0, 20), window(1, 1, 0, 1), window(64, 64, 999, 99), window(1, 64, 999, 1), window(64, 1, 0, 99), window(4, 8, 0, 10),
	} {
		for count := 1; count <= 4; count++ {
			expectWindowsValid(t, equalWindows(count, w), true)
		}
		expectWindowsValid(t, equalWindows(5, w), false)
	}
	for _, w := range []impl.Window{
		{}, window(0, 5, 0, 20), window(65, 5, 0, 20), window(10, 0, 0, 20), window(10, 65, 0, 20),
		window(10, 5, -1, 20), window(10, 5, 1000, 20), window(10, 5, 0, 0), window(10, 5, 0, 100),
	} {
		for count := 1; count <= 5; count++ {
			expectWindowsValid(t, equalWindows(count, w), false)
		}
	}
	expectWindowsValid(t, nil, false)
	expectWindowsValid(t, []impl.Window{}, false)
}

func TestWindowsValidEachField(t *testing.T) {
	good := []impl.Window{window(10, 5, 500, 20), window(1, 64, 0, 99), window(64, 1, 999, 1), window(33, 33, 1, 50)}
	for n := -1100; n <= 1100; n++ {
		for count := 1; count <= 4; count++ {
			for i := range count {
				w := good[i]
				for _, changed := range []impl.Window{
					window(n, w.Threshold, w.Credit, w.Rtt), window(w.Size, n, w.Credit, w.Rtt), window(w.Size, w.Threshold, n, w.Rtt),
					window(w.Size, w.Threshold, w.Credit, n), window(n, n, w.Credit, w.Rtt), window(n, n, n, n),
				} {
					list := withWindow(good[:count], i, changed)
					expectWindowsValid(t, list, expectedWindowsValid(list))
				}
			}
		}
	}
}

func TestWindowsValidLists(t *testing.T) {
	for _, list := range sampleWindows() {
		expectWindowsValid(t, list, true)
	}
	for _, list := range invalidWindows() {
		if expectedWindowsValid(list) {
			t.Fatalf("%v is valid", list)
		}
		expectWindowsValid(t, list, false)
	}
	for count := range 20 {
		expectWindowsValid(t, equalWindows(count, window(10, 5, 0, 20)), 1 <= count && count <= 4)
	}
}

func TestPromise102Increase(t *testing.T) {
	check := func(list []impl.Window, i int) {
		n := impl.WindowIncrease(list, i)
		if n < 0 || n > 1000/list[i].Size {
			t.Fatalf("WindowIncrease(%v, %d) returned %d", list, i, n)
		}
		expectIncrease(t, list, i, expectedIncrease(list, i))
	}
	forWindows(check)
	forPairsOfPaths(check)
	forWindowRuns(t, func(list []impl.Window, i int, isLoss bool) { check(list, i) })
}

func TestPromise102OnePath(t *testing.T) {
	// All quotients are even.
	expectIncrease(t, paths(10, 20), 0, 100)
	expectIncrease(t, paths(1, 1), 0, 1000)
	// 1000 divided by the size is rounded down.
	expectIncrease(t, paths(3, 1), 0, 333)
	expectIncrease(t, paths(6, 5), 0, 166)
	expectIncrease(t, paths(64, 1), 0, 15)
	expectIncrease(t, paths(64, 99), 0, 15)
	// Best is 195312.5 rounded down, and the sum is 625.
	expectIncrease(t, paths(2, 32), 0, 499)
	// The sum is 2857.1 rounded down, and best 4081632.
	expectIncrease(t, paths(2, 7), 0, 500)
	// The sum is 101.01 rounded down, and best 10203: the first quotient is 1000.19.
	expectIncrease(t, paths(1, 99), 0, 1000)
}

func TestPromise102TwoPaths(t *testing.T) {
	expectIncrease(t, paths(10, 20, 10, 20), 0, 25)
	expectIncrease(t, paths(10, 20, 10, 20), 1, 25)
	// Best is 444444.4 rounded down; the first quotient is 269.99.
	expectIncrease(t, paths(1, 15, 5, 81), 0, 269)
	// Best is 152415.8 rounded down, and the sum 1020 and 1234; the first quotient is 29.99.
	expectIncrease(t, paths(10, 98, 10, 81), 0, 29)
	expectIncrease(t, paths(10, 98, 10, 81), 1, 29)
	// The summands are 1562.5, each rounded down.
	expectIncrease(t, paths(10, 64, 10, 64), 0, 25)
	expectIncrease(t, paths(20, 98, 5, 9), 1, 107)
	expectIncrease(t, paths(3, 64, 1, 3), 1, 769)
	// The first quotient is 444.4 and 562.5.
	expectIncrease(t, paths(1, 1, 1, 2), 0, 444)
	expectIncrease(t, paths(1, 1, 1, 3), 0, 562)
	// The first quotient is 368 for both; for the second path the other one is 15.
	expectIncrease(t, paths(1, 1, 64, 99), 0, 368)
	expectIncrease(t, paths(1, 1, 64, 99), 1, 15)
	expectIncrease(t, paths(64, 99, 1, 1), 0, 15)
	expectIncrease(t, paths(64, 99, 1, 1), 1, 368)
}

func TestPromise102ManyPaths(t *testing.T) {
	// The best path is the first, the second, and the third one.
	for i := range 3 {
		expectIncrease(t, paths(10, 1, 1, 10, 1, 10), i, 96)
		expectIncrease(t, paths(1, 10, 10, 1, 1, 10), i, 96)
		expectIncrease(t, paths(1, 10, 1, 10, 10, 1), i, 96)
		expectIncrease(t, paths(1, 81, 2, 33, 2, 81), i, 193)
	}
	for i := range 4 {
		expectIncrease(t, paths(8, 99, 8, 33, 3, 9, 3, 7), i, 52)
		expectIncrease(t, paths(10, 1, 5, 81, 2, 9, 3, 99), i, 94)
		// Nothing is left by rounding.
		expectIncrease(t, paths(64, 1, 64, 1, 64, 1, 64, 1), i, 0)
		expectIncrease(t, paths(63, 99, 63, 99, 63, 99, 63, 99), i, 0)
		expectIncrease(t, paths(62, 50, 62, 50, 62, 50, 62, 50), i, 1)
		expectIncrease(t, paths(1, 99, 1, 99, 1, 99, 1, 99), i, 62)
	}
	// A single packet on a path that is much slower than the others.
	expectIncrease(t, paths(64, 1, 64, 1, 64, 1, 1, 99), 3, 1)
	expectIncrease(t, paths(64, 99, 64, 99, 64, 99, 1, 1), 3, 115)
	expectIncrease(t, paths(64, 99, 64, 99, 64, 99, 1, 1), 0, 15)
}

func TestPromise102EachQuotient(t *testing.T) {
	counts := map[string]int{}
	count := func(name string, even bool) {
		if even {
			counts[name+" even"]++
		} else {
			counts[name+" rounded"]++
		}
	}
	forWindows(func(list []impl.Window, i int) {
		best, sum, coupled, alone := quotients(list, i)
		for _, w := range list {
			if w.Size*100000000/(w.Rtt*w.Rtt) == best {
				count("best", w.Size*100000000%(w.Rtt*w.Rtt) == 0)
			}
			count("sum", w.Size*10000%w.Rtt == 0)
		}
		count("coupled", 1000*best%(sum*sum) == 0)
		count("alone", 1000%list[i].Size == 0)
		if own := list[i].Size * 100000000 / (list[i].Rtt * list[i].Rtt); own == best {
			counts["own is best"]++
		} else {
			counts["other is best"]++
		}
		switch want := impl.WindowIncrease(list, i); {
		case want == coupled && want == alone:
			counts["both"]++
		case want == coupled:
			counts["coupled is less"]++
		case want == alone:
			counts["alone is less"]++
		}
	})
	for _, name := range []string{
		"best even", "best rounded", "sum even", "sum rounded", "coupled even", "coupled rounded", "alone even", "alone rounded",
		"own is best", "other is best", "both", "coupled is less", "alone is less",
	} {
		if counts[name] < 50 {
			t.Errorf("only %d samples of: %s", counts[name], name)
		}
	}
}

func TestPromise102OnlySizesAndRtts(t *testing.T) {
	forWindows(func(list []impl.Window, i int) {
		other := slices.Clone(list)
		for j := range other {
			other[j].Threshold, other[j].Credit = 65-other[j].Threshold, 999-other[j].Credit
		}
		expectIncrease(t, other, i, impl.WindowIncrease(list, i))
	})
}

func TestPromise102Invalid(t *testing.T) {
	for _, list := range invalidWindows() {
		for i := -1; i <= 5; i++ {
			expectNoPath(t, list, i)
		}
		for _, i := range append(outsideFrom(3), len(list)-1, len(list)) {
			expectNoPath(t, list, i)
		}
	}
}

func TestPromise102NoSuchPath(t *testing.T) {
	for _, list := range sampleWindows() {
		// Some of these are paths of longer lists.
		for _, i := range append(outsideFrom(len(list)-1), 3+len(list), 4, 5, 64, math.MinInt+1) {
			expectNoPath(t, list, i)
		}
		for i := len(list); i < 9; i++ {
			expectNoPath(t, list, i)
			expectNoPath(t, list, -i)
		}
	}
}

func TestPromise103SinglePath(t *testing.T) {
	// Those for which it is one less, because best is rounded down.
	less := []impl.Window{}
	for size := 1; size <= 64; size++ {
		for rtt := 1; rtt <= 99; rtt++ {
			list := paths(size, rtt)
			expectIncrease(t, list, 0, expectedIncrease(list, 0))
			switch impl.WindowIncrease(list, 0) {
			case 1000 / size:
			case 1000/size - 1:
				less = append(less, list[0])
			default:
				t.Fatalf("WindowIncrease(%v, 0) returned %d", list, impl.WindowIncrease(list, 0))
			}
		}
	}
	if want := paths(2, 32, 4, 64, 8, 64, 10, 32, 20, 64, 40, 64, 50, 32); !slices.Equal(less, want) {
		t.Errorf("the increase is one less than CreditUnit/Size for %v, want %v", less, want)
	}
}

func TestPromise103OtherFields(t *testing.T) {
	for _, size := range windowSizes {
		for threshold := 1; threshold <= 64; threshold++ {
			for _, credit := range windowCredits {
				n := impl.WindowIncrease([]impl.Window{window(size, threshold, credit, 10)}, 0)
				if n != 1000/size && n != 1000/size-1 {
					t.Fatalf("WindowIncrease of size %d returned %d", size, n)
				}
			}
		}
	}
}

func TestPromise104EqualWindows(t *testing.T) {
	for size := 1; size <= 64; size++ {
		for rtt := 1; rtt <= 99; rtt++ {
			for count := 1; count <= 4; count++ {
				list := equalWindows(count, window(size, 65-size, 7*size, rtt))
				for i := range list {
					n := impl.WindowIncrease(list, i)
					if count*n > 1000/size || n < 0 {
						t.Fatalf("WindowIncrease(%v, %d) returned %d", list, i, n)
					}
					expectIncrease(t, list, i, expectedIncrease(list, 0))
				}
			}
		}
	}
}

func TestPromise104Examples(t *testing.T) {
	for count, want := range []int{1000, 250, 111, 62} {
		expectIncrease(t, equalWindows(count+1, window(1, 1, 0, 1)), count, want)
		expectIncrease(t, equalWindows(count+1, window(1, 1, 0, 10)), 0, want)
	}
	for count, want := range []int{100, 25, 11, 6} {
		expectIncrease(t, equalWindows(count+1, window(10, 5, 0, 20)), count, want)
	}
	for count, want := range []int{15, 3, 1, 0} {
		expectIncrease(t, equalWindows(count+1, window(64, 64, 999, 1)), count, want)
	}
}

func TestPromise105ReverseOrder(t *testing.T) {
	differ := 0
	check := func(list []impl.Window, i int) {
		want := impl.WindowIncrease(list, i)
		if n := impl.WindowIncrease(reversedWindows(list), len(list)-1-i); n != want || n < 0 {
			t.Fatalf("WindowIncrease(%v, %d) returned %d, and %d in reverse order", list, i, want, n)
		}
		if impl.WindowIncrease(list, len(list)-1-i) != want {
			differ++
		}
	}
	forWindows(check)
	forPairsOfPaths(check)
	if differ < 100 {
		t.Errorf("the increase of only %d paths differs from that of their counterpart", differ)
	}
}

func TestPromise105AnyOrder(t *testing.T) {
	source := rand.New(rand.NewSource(105))
	forWindows(func(list []impl.Window, i int) {
		order := source.Perm(len(list))
		next := make([]impl.Window, len(list))
		for to, from := range order {
			next[to] = list[from]
		}
		expectIncrease(t, next, slices.Index(order, i), impl.WindowIncrease(list, i))
	})
}

func TestPromise106OnlyOnePath(t *testing.T) {
	check := func(list []impl.Window, i int) {
		next := afterAck(t, list, i)
		expectOnlyChanged(t, list, i, next)
		if more := next[i].Size - list[i].Size; more < 0 || more > 1 || next[i].Threshold != list[i].Threshold {
			t.Fatalf("WindowAck(%v, %d) returned %v", list, i, next)
		}
	}
	forWindowAcks(check)
	forWindowRuns(t, func(list []impl.Window, i int, isLoss bool) { check(list, i) })
}

func TestPromise106All(t *testing.T) {
	check := func(list []impl.Window, i int) {
		expectWindowAck(t, list, i, expectedWindowAck(list, i))
	}
	forWindowAcks(check)
	forWindowRuns(t, func(list []impl.Window, i int, isLoss bool) { check(list, i) })
}

func TestPromise106EachPath(t *testing.T) {
	list := []impl.Window{window(10, 5, 900, 20), window(3, 8, 7, 20), window(10, 10, 10, 20), window(64, 64, 999, 20)}
	// Best is 16000000, and the sum 43500: the first quotient is 8.46.
	for i, want := range []impl.Window{window(10, 5, 908, 20), window(4, 8, 7, 20), window(10, 10, 18, 20), window(64, 64, 7, 20)} {
		expectIncrease(t, list, i, 8)
		expectWindowAck(t, list, i, withWindow(list, i, want))
	}
}

// The result depends on the arguments alone, not on the calls before.
func TestPromise106SameArguments(t *testing.T) {
	forWindows(func(list []impl.Window, i int) {
		first, loss := afterAck(t, list, i), afterLoss(t, list, i)
		afterAck(t, first, i)
		afterLoss(t, first, i)
		expectWindowAck(t, list, i, first)
		expectWindowLoss(t, list, i, loss)
	})
}

func TestPromise107BelowThreshold(t *testing.T) {
	for size := 1; size <= 63; size++ {
		for threshold := size + 1; threshold <= 64; threshold++ {
			for _, credit := range windowCredits {
				for _, rtt := range windowRtts {
					w, more := window(size, threshold, credit, rtt), window(size+1, threshold, credit, rtt)
					expectWindowAck(t, []impl.Window{w}, 0, []impl.Window{more})
					expectWindowAck(t, []impl.Window{w, w, w}, 1, []impl.Window{w, more, w})
				}
			}
		}
	}
	below := 0
	forWindowAcks(func(list []impl.Window, i int) {
		if w := list[i]; w.Size < w.Threshold {
			below++
			expectWindowAck(t, list, i, withWindow(list, i, window(w.Size+1, w.Threshold, w.Credit, w.Rtt)))
		}
	})
	if below < 1000 {
		t.Errorf("only %d sizes are below their threshold", below)
	}
}

func TestPromise107NextToThreshold(t *testing.T) {
	for threshold := 2; threshold <= 63; threshold++ {
		expectWindowAck(t, []impl.Window{window(threshold-1, threshold, 999, 10)}, 0, []impl.Window{window(threshold, threshold, 999, 10)})
		// At and above the threshold, the credit increases.
		at := impl.WindowIncrease([]impl.Window{window(threshold, threshold, 0, 10)}, 0)
		expectWindowAck(t, []impl.Window{window(threshold, threshold, 0, 10)}, 0, []impl.Window{window(threshold, threshold, at, 10)})
		above := impl.WindowIncrease([]impl.Window{window(threshold+1, threshold, 0, 10)}, 0)
		expectWindowAck(t, []impl.Window{window(threshold+1, threshold, 0, 10)}, 0, []impl.Window{window(threshold+1, threshold, above, 10)})
		if at < 1 || above < 1 {
			t.Fatalf("nothing is added at threshold %d", threshold)
		}
	}
	expectWindowAck(t, []impl.Window{window(63, 64, 999, 1)}, 0, []impl.Window{window(64, 64, 999, 1)})
	expectWindowAck(t, []impl.Window{window(1, 2, 0, 99)}, 0, []impl.Window{window(2, 2, 0, 99)})
}

func TestPromise107Start(t *testing.T) {
	list := []impl.Window{window(4, 8, 0, 10), window(4, 8, 0, 20)}
	for size := 5; size <= 8; size++ {
		list = afterAck(t, list, 0)
		if list[0] != window(size, 8, 0, 10) {
			t.Fatalf("the window is %v, want size %d", list[0], size)
		}
	}
	// Best is 8000000, and the sum 8000 and 2000: the increase is 80.
	list = afterAck(t, list, 0)
	if list[0] != window(8, 8, 80, 10) || list[1] != window(4, 8, 0, 20) {
		t.Fatalf("the windows are %v", list)
	}
}

func TestPromise108Credit(t *testing.T) {
	stays, grows := 0, 0
	check := func(list []impl.Window, i int) {
		w := list[i]
		if w.Size < w.Threshold || w.Size == 64 {
			return
		}
		next := afterAck(t, list, i)
		if more := 1000*next[i].Size + next[i].Credit - 1000*w.Size - w.Credit; more != expectedIncrease(list, i) {
			t.Fatalf("WindowAck(%v, %d) returned %v, which is %d more", list, i, next, more)
		}
		if next[i].Size == w.Size {
			stays++
		} else {
			grows++
		}
	}
	forWindowAcks(check)
	forWindowRuns(t, func(list []impl.Window, i int, isLoss bool) { check(list, i) })
	if stays < 1000 || grows < 1000 {
		t.Errorf("only %d windows stay, and %d grow", stays, grows)
	}
}

func TestPromise108AllCredits(t *testing.T) {
	for size := 1; size <= 64; size++ {
		for _, threshold := range inside(1, 64, 1, size-1, size) {
			for credit := range 1000 {
				list := []impl.Window{window(size, threshold, credit, 10), window(20, 20, 3, 50)}
				expectWindowAck(t, list, 0, expectedWindowAck(list, 0))
			}
		}
	}
}

func TestPromise108Examples(t *testing.T) {
	for _, c := range []struct{ before, after impl.Window }{
		// The credit stays below CreditUnit, reaches it, and exceeds it.
		{window(10, 5, 0, 20), window(10, 5, 100, 20)},
		{window(10, 5, 899, 20), window(10, 5, 999, 20)},
		{window(10, 5, 900, 20), window(11, 5, 0, 20)},
		{window(10, 5, 901, 20), window(11, 5, 1, 20)},
		{window(10, 10, 999, 20), window(11, 10, 99, 20)},
		{window(2, 2, 499, 32), window(2, 2, 998, 32)},
		{window(2, 2, 500, 32), window(2, 2, 999, 32)},
		{window(2, 2, 501, 32), window(3, 2, 0, 32)},
		// An increase of CreditUnit.
		{window(1, 1, 0, 1), window(2, 1, 0, 1)},
		{window(1, 1, 1, 1), window(2, 1, 1, 1)},
		{window(1, 1, 999, 99), window(2, 1, 999, 99)},
		// The largest window but one.
		{window(63, 63, 984, 10), window(63, 63, 999, 10)},
		{window(63, 63, 985, 10), window(64, 63, 0, 10)},
		{window(63, 1, 999, 10), window(64, 1, 14, 10)},
	} {
		expectWindowAck(t, []impl.Window{c.before}, 0, []impl.Window{c.after})
	}
	// The increase is 0.
	four := equalWindows(4, window(63, 1, 999, 1))
	expectWindowAck(t, four, 2, four)
}

func TestPromise108LargestWindow(t *testing.T) {
	// Only the credit of the largest window changes.
	for credit := range 1000 {
		for _, threshold := range []int{1, 63, 64} {
			for _, rtt := range []int{1, 10, 99} {
				expectWindowAck(t, []impl.Window{window(64, threshold, credit, rtt)}, 0, []impl.Window{window(64, threshold, (credit+15)%1000, rtt)})
			}
		}
	}
	list := []impl.Window{window(64, 64, 0, 10)}
	for n := 1; n <= 500; n++ {
		list = afterAck(t, list, 0)
		if list[0] != window(64, 64, 15*n%1000, 10) {
			t.Fatalf("after %d acknowledgements, the window is %v", n, list[0])
		}
	}
}

// A window grows by a packet as soon as the increases make up for the credit
// that it lacks: about once for as many acknowledgements as it has packets.
func TestPromise108Growth(t *testing.T) {
	list := []impl.Window{window(1, 1, 0, 25)}
	for size := 1; size < 64; size++ {
		lacks, increase, count := 1000-list[0].Credit, expectedIncrease(list, 0), 0
		for list[0].Size == size {
			list = afterAck(t, list, 0)
			count++
		}
		if want := (lacks + increase - 1) / increase; count != want || list[0].Size != size+1 {
			t.Fatalf("%d acknowledgements changed the size from %d to %d, want %d", count, size, list[0].Size, want)
		}
	}
}

func TestPromise109OnlyOnePath(t *testing.T) {
	check := func(list []impl.Window, i int) {
		next := afterLoss(t, list, i)
		expectOnlyChanged(t, list, i, next)
		half := max(list[i].Size/2, 1)
		if next[i].Size != half || next[i].Threshold != half || next[i].Credit != 0 {
			t.Fatalf("WindowLoss(%v, %d) returned %v", list, i, next)
		}
		expectWindowLoss(t, list, i, expectedWindowLoss(list, i))
	}
	forWindowAcks(check)
	forWindowRuns(t, func(list []impl.Window, i int, isLoss bool) { check(list, i) })
}

func TestPromise109All(t *testing.T) {
	for size := 1; size <= 64; size++ {
		for threshold := 1; threshold <= 64; threshold++ {
			for _, credit := range []int{0, 1, 500, 999} {
				for _, rtt := range []int{1, 20, 99} {
					list := []impl.Window{window(size, threshold, credit, rtt)}
					expectWindowLoss(t, list, 0, expectedWindowLoss(list, 0))
				}
			}
		}
	}
}

func TestPromise109Examples(t *testing.T) {
	for _, c := range []struct{ before, after impl.Window }{
		{window(10, 5, 700, 20), window(5, 5, 0, 20)},
		{window(1, 1, 999, 20), window(1, 1, 0, 20)},
		{window(1, 64, 0, 20), window(1, 1, 0, 20)},
		{window(2, 2, 1, 20), window(1, 1, 0, 20)},
		{window(3, 2, 1, 20), window(1, 1, 0, 20)},
		{window(4, 8, 1, 20), window(2, 2, 0, 20)},
		{window(5, 64, 1, 20), window(2, 2, 0, 20)},
		{window(63, 1, 1, 99), window(31, 31, 0, 99)},
		{window(64, 1, 999, 1), window(32, 32, 0, 1)},
		{window(64, 64, 999, 99), window(32, 32, 0, 99)},
	} {
		expectWindowLoss(t, []impl.Window{c.before}, 0, []impl.Window{c.after})
		other := window(40, 30, 20, 10)
		expectWindowLoss(t, []impl.Window{c.before, other}, 0, []impl.Window{c.after, other})
		expectWindowLoss(t, []impl.Window{other, c.before, other}, 1, []impl.Window{other, c.after, other})
		expectWindowLoss(t, []impl.Window{other, other, c.before, other}, 2, []impl.Window{other, other, c.after, other})
		expectWindowLoss(t, []impl.Window{other, c.before, other, c.before}, 3, []impl.Window{other, c.before, other, c.after})
	}
}

func TestPromise110ValidWindows(t *testing.T) {
	check := func(list []impl.Window, i int) {
		for _, next := range [][]impl.Window{afterAck(t, list, i), afterLoss(t, list, i)} {
			expectWindowsValid(t, next, true)
			if !expectedWindowsValid(next) {
				t.Fatalf("path %d changed %v to %v, which is not valid", i, list, next)
			}
		}
	}
	forWindowAcks(check)
	forWindowRuns(t, func(list []impl.Window, i int, isLoss bool) { check(list, i) })
}

func TestPromise110Edges(t *testing.T) {
	for size := 1; size <= 64; size++ {
		for threshold := 1; threshold <= 64; threshold++ {
			for _, credit := range []int{0, 999} {
				for _, rtt := range []int{1, 99} {
					list := []impl.Window{window(size, threshold, credit, rtt)}
					expectWindowsValid(t, afterAck(t, list, 0), true)
					expectWindowsValid(t, afterLoss(t, list, 0), true)
				}
			}
		}
	}
}

// Windows that only grow reach their limit together and stay there.
func TestPromise110Growth(t *testing.T) {
	for count := 1; count <= 2; count++ {
		list := equalWindows(count, window(1, 30, 0, 10))
		for range 40000 {
			for i := range list {
				list = afterAck(t, list, i)
			}
		}
		expectWindowsValid(t, list, true)
		expectTotal(t, list, 64*count)
	}
}

func TestPromise111Total(t *testing.T) {
	grows, shrinks := 0, 0
	check := func(list []impl.Window, i int) {
		total := expectedTotal(list)
		expectTotal(t, list, total)
		ack, loss := afterAck(t, list, i), afterLoss(t, list, i)
		if more := impl.WindowTotal(ack) - total; more < 0 || more > 1 {
			t.Fatalf("WindowAck(%v, %d) returned %v", list, i, ack)
		} else {
			grows += more
		}
		if less := total - impl.WindowTotal(loss); less < 0 || less != list[i].Size-max(list[i].Size/2, 1) {
			t.Fatalf("WindowLoss(%v, %d) returned %v", list, i, loss)
		} else if less > 0 {
			shrinks++
		}
	}
	forWindowAcks(check)
	forWindowRuns(t, func(list []impl.Window, i int, isLoss bool) { check(list, i) })
	if grows < 1000 || shrinks < 1000 {
		t.Errorf("the total grows only %d times and shrinks %d times", grows, shrinks)
	}
}

func TestPromise111Examples(t *testing.T) {
	expectTotal(t, paths(1, 99), 1)
	expectTotal(t, paths(64, 1), 64)
	expectTotal(t, paths(10, 20, 3, 20), 13)
	expectTotal(t, paths(1, 1, 2, 1, 4, 1, 8, 1), 15)
	expectTotal(t, equalWindows(4, window(64, 1, 999, 99)), 256)
	expectTotal(t, equalWindows(4, window(1, 64, 999, 99)), 4)
	for size := 1; size <= 64; size++ {
		expectTotal(t, paths(size, 10, 65-size, 20), 65)
		expectTotal(t, paths(size, 10, size, 20, size, 30, size, 40), 4*size)
	}
}

func TestPromise111Invalid(t *testing.T) {
	for _, list := range invalidWindows() {
		expectTotal(t, list, -1)
	}
}

func TestPromise112SevenLosses(t *testing.T) {
	forWindows(func(list []impl.Window, i int) {
		next := list
		for range 7 {
			next = afterLoss(t, next, i)
		}
		if !slices.Equal(next, withWindow(list, i, window(1, 1, 0, list[i].Rtt))) {
			t.Fatalf("seven losses of path %d changed %v to %v", i, list, next)
		}
	})
}

func TestPromise112Examples(t *testing.T) {
	for _, c := range []struct {
		size  int
		after []int
	}{
		{64, []int{32, 16, 8, 4, 2, 1, 1, 1}},
		{63, []int{31, 15, 7, 3, 1, 1, 1, 1}},
		{33, []int{16, 8, 4, 2, 1, 1, 1, 1}},
		{1, []int{1, 1, 1, 1, 1, 1, 1, 1}},
	} {
		for _, threshold := range []int{1, c.size, 64} {
			list := []impl.Window{window(7, 7, 7, 7), window(c.size, threshold, 999, 30)}
			for _, size := range c.after {
				list = afterLoss(t, list, 1)
				if list[1] != window(size, size, 0, 30) || list[0] != window(7, 7, 7, 7) {
					t.Fatalf("a loss changed the windows to %v, want size %d", list, size)
				}
			}
		}
	}
}

// Acknowledgements between the losses do not undo them.
func TestPromise112LossesAndAcks(t *testing.T) {
	list := []impl.Window{window(64, 64, 999, 30)}
	for _, c := range []struct{ loss, ack impl.Window }{
		{window(32, 32, 0, 30), window(32, 32, 31, 30)},
		{window(16, 16, 0, 30), window(16, 16, 62, 30)},
		{window(8, 8, 0, 30), window(8, 8, 125, 30)},
		{window(4, 4, 0, 30), window(4, 4, 250, 30)},
		{window(2, 2, 0, 30), window(2, 2, 500, 30)},
		{window(1, 1, 0, 30), window(2, 1, 0, 30)},
	} {
		expectWindowLoss(t, list, 0, []impl.Window{c.loss})
		expectWindowAck(t, []impl.Window{c.loss}, 0, []impl.Window{c.ack})
		list = []impl.Window{c.ack}
	}
}

// withSpareWindows returns a list with a capacity of exactly count more
// elements, which would be further windows.
func withSpareWindows(list []impl.Window, count int) []impl.Window {
	spare := slices.Clip(slices.Concat(list, equalWindows(count, window(10, 5, 0, 20))))
	return spare[:len(list)]
}

// overwriteWindows changes all memory of a list, with its spare capacity.
func overwriteWindows(list []impl.Window) {
	for i := range list[:cap(list)] {
		list[:cap(list)][i] = window(-7, -7, -7, -7)
	}
}

// windowCalls calls all functions of the chapter for all paths and returns the
// results that have memory.
func windowCalls(list []impl.Window) [][]impl.Window {
	results := [][]impl.Window{}
	impl.WindowsValid(list)
	impl.WindowTotal(list)
	for i := -1; i <= len(list); i++ {
		impl.WindowIncrease(list, i)
		ack, _ := impl.WindowAck(list, i)
		loss, _ := impl.WindowLoss(list, i)
		results = append(results, ack, loss)
	}
	return results
}

func TestWindowArgumentsStayAsTheyAreAndResultsShareNoMemory(t *testing.T) {
	for _, sample := range append(sampleWindows(), invalidWindows()...) {
		list := withSpareWindows(sample, 5)
		memory := slices.Clone(list[:cap(list)])
		results, again := windowCalls(list), windowCalls(list)
		if !slices.Equal(list[:cap(list)], memory) {
			t.Fatalf("%v was changed to %v", memory, list[:cap(list)])
		}
		for i, result := range results {
			overwriteWindows(result)
			for j := i + 1; j < len(results); j++ {
				if !slices.Equal(results[j], again[j]) {
					t.Fatalf("results %d and %d of %v share memory", i, j, list)
				}
			}
		}
		if !slices.Equal(list[:cap(list)], memory) {
			t.Fatalf("a result shares memory with %v", memory)
		}
	}
}

func TestWindowSpareCapacityCountsNothing(t *testing.T) {
	for _, sample := range append(sampleWindows(), invalidWindows()...) {
		valid, results := impl.WindowsValid(sample), windowCalls(sample)
		for count := range 6 {
			list := withSpareWindows(sample, count)
			expectWindowsValid(t, list, valid)
			expectTotal(t, list, impl.WindowTotal(sample))
			for i := -1; i <= len(list); i++ {
				expectIncrease(t, list, i, impl.WindowIncrease(sample, i))
			}
			if !slices.EqualFunc(windowCalls(list), results, slices.Equal) {
				t.Fatalf("the results of %v depend on its capacity", list)
			}
		}
	}
}

// The results of calls with a result as the argument share no memory with it, either.
func TestWindowResultsOfResultsShareNoMemory(t *testing.T) {
	forWindows(func(list []impl.Window, i int) {
		first := afterAck(t, list, i)
		want := slices.Clone(first)
		second, third := afterAck(t, first, i), afterLoss(t, first, i)
		overwriteWindows(second)
		overwriteWindows(third)
		if !slices.Equal(first, want) {
			t.Fatalf("results of %v share memory with it", want)
		}
	})
}
