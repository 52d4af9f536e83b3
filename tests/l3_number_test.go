package tests

import (
	"math"
	"testing"

	"loop.example/multipathtransport/impl"
)

// numberLengths are the permitted lengths of truncated numbers.
var numberLengths = []int{4, 8, 12}

// invalidLengths are other lengths. For some of them, a power of two would
// overflow, or their last bits are those of a permitted length.
var invalidLengths = []int{
	math.MinInt, math.MinInt + 8, -256, -12, -8, -4, -1, 0, 1, 2, 3, 5, 6, 7, 9, 10, 11, 13, 14, 15, 16, 20, 24, 30,
	31, 32, 60, 62, 63, 64, 68, 72, 76, 128, 260, 264, 268, 1<<16 + 4, 1<<32 + 8, math.MaxInt - 3, math.MaxInt,
}

// numbersOutside are no packet numbers.
var numbersOutside = []int{
	math.MinInt, math.MinInt + 1, -1 << 32, -1000, -999, -256, -17, -16, -2, -1,
	1000, 1001, 1008, 1024, 4095, 4096, 1 << 16, 1 << 32, 1<<32 + 5, math.MaxInt - 1, math.MaxInt,
}

// valuesOf returns how many values a truncated number of this length can have.
func valuesOf(bits int) int {
	return map[int]int{4: 16, 8: 256, 12: 4096}[bits]
}

// expectedBits returns the length for a distance of full and acked, with the
// longest distances that fit written out.
func expectedBits(distance int) int {
	switch {
	case distance <= 7:
		return 4
	case distance <= 127:
		return 8
	}
	return 12
}

// expectedExpansions returns what each value expands to: it goes through the
// interval and looks at the last bits of each of its numbers.
func expectedExpansions(largest int, bits int) []int {
	size, want := valuesOf(bits), largest+1
	expansions := make([]int, size)
	for n := want - size/2 + 1; n <= want+size/2; n++ {
		if n >= 0 {
			expansions[n%size] = n
		} else {
			expansions[n+size] = n + size
		}
	}
	return expansions
}

// forNumbersToSend calls check for all valid arguments of NumberBits.
func forNumbersToSend(check func(full int, acked int)) {
	for full := 0; full <= impl.MaxNumber; full++ {
		for acked := -1; acked < full; acked++ {
			check(full, acked)
		}
	}
}

// forTruncated calls check for all valid arguments of NumberExpand.
func forTruncated(check func(largest int, value int, bits int)) {
	for _, bits := range numberLengths {
		for largest := -1; largest <= impl.MaxNumber; largest++ {
			for value := range valuesOf(bits) {
				check(largest, value, bits)
			}
		}
	}
}

func expectExpansion(t *testing.T, largest int, value int, bits int, want int) {
	t.Helper()
	if got := impl.NumberExpand(largest, value, bits); got != want {
		t.Fatalf("NumberExpand(%d, %d, %d) returned %d, not %d", largest, value, bits, got, want)
	}
}

// expectSent checks that full, sent with this length, is understood by a
// receiver whose largest received number is largest.
func expectSent(t *testing.T, full int, bits int, largest int) {
	t.Helper()
	value := impl.NumberTruncate(full, bits)
	if got := impl.NumberExpand(largest, value, bits); got != full {
		t.Fatalf("NumberExpand(%d, %d, %d) returned %d for %d", largest, value, bits, got, full)
	}
}

func TestNumberBitsExamples(t *testing.T) {
	for _, c := range []struct{ full, acked, want int }{
		{10, 2, 8}, {9, 2, 4}, {3, 2, 4},
		{0, -1, 4}, {1, -1, 4}, {1, 0, 4}, {6, -1, 4}, {7, -1, 8}, {7, 0, 4}, {8, 0, 8},
		{126, -1, 8}, {127, -1, 12}, {127, 0, 8}, {128, 0, 12}, {128, 1, 8},
		{999, -1, 12}, {999, 0, 12}, {999, 871, 12}, {999, 872, 8}, {999, 991, 8}, {999, 992, 4}, {999, 998, 4}, {998, -1, 12},
	} {
		if got := impl.NumberBits(c.full, c.acked); got != c.want {
			t.Errorf("NumberBits(%d, %d) returned %d, not %d", c.full, c.acked, got, c.want)
		}
	}
}

func TestNumberBitsReturnsTheExpectedLength(t *testing.T) {
	forNumbersToSend(func(full int, acked int) {
		if got, want := impl.NumberBits(full, acked), expectedBits(full-acked); got != want {
			t.Fatalf("NumberBits(%d, %d) returned %d, not %d", full, acked, got, want)
		}
	})
}

func expectNoBits(t *testing.T, full int, acked int) {
	t.Helper()
	if got := impl.NumberBits(full, acked); got != 0 {
		t.Fatalf("NumberBits(%d, %d) returned %d, not 0", full, acked, got)
	}
}

func TestNumberBitsOfInvalidNumbers(t *testing.T) {
	for n := -1; n <= impl.MaxNumber; n++ {
		for acked := n; acked <= impl.MaxNumber+2; acked++ {
			expectNoBits(t, n, acked)
		}
		for _, outside := range numbersOutside {
			expectNoBits(t, outside, n)
			if outside != -1 {
				expectNoBits(t, n, outside)
			}
		}
	}
	for _, full := range numbersOutside {
		for _, acked := range numbersOutside {
			expectNoBits(t, full, acked)
		}
	}
}

func TestNumberTruncateExamples(t *testing.T) {
	for _, c := range []struct{ full, bits, want int }{
		{300, 4, 12}, {300, 8, 44}, {300, 12, 300},
		{0, 4, 0}, {0, 8, 0}, {0, 12, 0}, {1, 4, 1}, {1, 8, 1}, {1, 12, 1},
		{15, 4, 15}, {16, 4, 0}, {17, 4, 1}, {15, 8, 15}, {16, 8, 16},
		{255, 4, 15}, {255, 8, 255}, {256, 8, 0}, {257, 8, 1}, {256, 4, 0}, {256, 12, 256},
		{999, 4, 7}, {999, 8, 231}, {999, 12, 999}, {998, 4, 6}, {998, 8, 230}, {998, 12, 998},
	} {
		if got := impl.NumberTruncate(c.full, c.bits); got != c.want {
			t.Errorf("NumberTruncate(%d, %d) returned %d, not %d", c.full, c.bits, got, c.want)
		}
	}
}

func TestNumberTruncateOfInvalidArguments(t *testing.T) {
	for _, full := range numbersOutside {
		for _, bits := range append(invalidLengths, numberLengths...) {
			if got := impl.NumberTruncate(full, bits); got != -1 {
				t.Errorf("NumberTruncate(%d, %d) returned %d, not -1", full, bits, got)
			}
		}
	}
	for full := 0; full <= impl.MaxNumber; full++ {
		for _, bits := range invalidLengths {
			if got := impl.NumberTruncate(full, bits); got != -1 {
				t.Errorf("NumberTruncate(%d, %d) returned %d, not -1", full, bits, got)
			}
		}
	}
}

// TestNumberExpandExamples has the two ends of the interval of each length,
// and the numbers just outside of it, near 0 and near MaxNumber.
func TestNumberExpandExamples(t *testing.T) {
	for _, c := range []struct{ largest, value, bits, want int }{
		{299, 44, 8, 300}, {-1, 3, 4, 3},

		{-1, 0, 4, 0}, {-1, 1, 4, 1}, {-1, 8, 4, 8}, {-1, 9, 4, 9}, {-1, 15, 4, 15},
		{0, 0, 4, 0}, {0, 9, 4, 9}, {0, 10, 4, 10}, {0, 15, 4, 15},
		{5, 14, 4, 14}, {5, 15, 4, 15}, {6, 0, 4, 0}, {6, 15, 4, 15},
		{7, 0, 4, 16}, {7, 1, 4, 1}, {8, 0, 4, 16}, {8, 1, 4, 17}, {8, 2, 4, 2},
		{15, 8, 4, 24}, {15, 9, 4, 9}, {16, 9, 4, 25}, {16, 10, 4, 10},

		{-1, 128, 8, 128}, {-1, 129, 8, 129}, {-1, 255, 8, 255}, {0, 130, 8, 130},
		{125, 255, 8, 255}, {126, 0, 8, 0}, {126, 255, 8, 255}, {127, 0, 8, 256}, {127, 1, 8, 1}, {128, 1, 8, 257}, {128, 2, 8, 2},
		{255, 128, 8, 384}, {255, 129, 8, 129},

		{-1, 0, 12, 0}, {-1, 2048, 12, 2048}, {-1, 2049, 12, 2049}, {-1, 4095, 12, 4095},
		{0, 2049, 12, 2049}, {0, 2050, 12, 2050}, {999, 0, 12, 0}, {999, 3048, 12, 3048}, {999, 3049, 12, 3049}, {999, 4095, 12, 4095},

		{998, 8, 4, 1000}, {998, 7, 4, 999}, {998, 0, 4, 992}, {998, 15, 4, 1007},
		{999, 8, 4, 1000}, {999, 7, 4, 999}, {999, 1, 4, 993}, {999, 0, 4, 1008},
		{998, 231, 8, 999}, {999, 105, 8, 873}, {999, 104, 8, 1128}, {999, 232, 8, 1000},
		{998, 999, 12, 999}, {999, 1000, 12, 1000},
	} {
		expectExpansion(t, c.largest, c.value, c.bits, c.want)
	}
}

func TestNumberExpandReturnsTheExpectedNumber(t *testing.T) {
	for _, bits := range numberLengths {
		for largest := -1; largest <= impl.MaxNumber; largest++ {
			for value, want := range expectedExpansions(largest, bits) {
				expectExpansion(t, largest, value, bits, want)
			}
		}
	}
}

func TestNumberExpandOfInvalidNumber(t *testing.T) {
	for _, bits := range numberLengths {
		for _, largest := range numbersOutside {
			for value := range valuesOf(bits) {
				if largest != -1 {
					expectExpansion(t, largest, value, bits, -1)
				}
			}
		}
	}
}

func TestNumberExpandOfInvalidLength(t *testing.T) {
	for _, bits := range invalidLengths {
		for largest := -1; largest <= impl.MaxNumber; largest++ {
			for _, value := range []int{-1, 0, 1, 7, 15, 16, 255, 1 << 12} {
				expectExpansion(t, largest, value, bits, -1)
			}
		}
	}
}

func TestNumberExpandOfInvalidValue(t *testing.T) {
	for _, bits := range numberLengths {
		size := valuesOf(bits)
		values := []int{
			math.MinInt, math.MinInt + 5, -1 << 32, -size - 1, -size, -size + 1, -size / 2, -2, -1, size, size + 1,
			size + size/2, 2*size - 1, 2 * size, 16 * size, 1 << 32, 1<<32 + 5, math.MaxInt - 5, math.MaxInt,
		}
		for largest := -1; largest <= impl.MaxNumber; largest++ {
			for _, value := range values {
				expectExpansion(t, largest, value, bits, -1)
			}
		}
	}
}

// TestPromise24EveryLargest checks, for each length that NumberBits returns
// for full, all numbers from the lowest such acked on. These are all numbers
// from acked to full-1 for every such acked.
func TestPromise24EveryLargest(t *testing.T) {
	for full := 0; full <= impl.MaxNumber; full++ {
		lowest := map[int]int{}
		for acked := full - 1; acked >= -1; acked-- {
			lowest[impl.NumberBits(full, acked)] = acked
		}
		for bits, acked := range lowest {
			for largest := acked; largest < full; largest++ {
				expectSent(t, full, bits, largest)
			}
		}
	}
}

func TestPromise25LateNumber(t *testing.T) {
	for _, bits := range numberLengths {
		for full := 0; full <= impl.MaxNumber; full++ {
			for largest := full; largest <= impl.MaxNumber && largest+1-full < valuesOf(bits)/2; largest++ {
				expectSent(t, full, bits, largest)
			}
		}
	}
}

// TestLateNumberAtTheEnds has the last late number that is understood, and
// the first one that is not.
func TestLateNumberAtTheEnds(t *testing.T) {
	for _, c := range []struct{ full, largest, bits, want int }{
		{0, 6, 4, 0}, {0, 7, 4, 16}, {100, 106, 4, 100}, {100, 107, 4, 116}, {993, 999, 4, 993}, {992, 999, 4, 1008},
		{0, 126, 8, 0}, {0, 127, 8, 256}, {500, 626, 8, 500}, {500, 627, 8, 756}, {873, 999, 8, 873}, {872, 999, 8, 1128},
		{0, 999, 12, 0},
	} {
		expectExpansion(t, c.largest, impl.NumberTruncate(c.full, c.bits), c.bits, c.want)
	}
}

func TestPromise26Bits(t *testing.T) {
	forNumbersToSend(func(full int, acked int) {
		bits, twice := impl.NumberBits(full, acked), 2*(full-acked)
		if bits != 4 && bits != 8 && bits != 12 {
			t.Fatalf("NumberBits(%d, %d) returned %d", full, acked, bits)
		}
		if twice >= 1<<bits || twice < 1<<(bits-4) {
			t.Fatalf("NumberBits(%d, %d) returned %d, but twice the distance is %d", full, acked, bits, twice)
		}
	})
}

func TestPromise27LongerDistance(t *testing.T) {
	forNumbersToSend(func(full int, acked int) {
		if acked == -1 {
			return
		}
		if further, bits := impl.NumberBits(full, acked-1), impl.NumberBits(full, acked); further < bits || bits == 0 {
			t.Fatalf("NumberBits(%d, %d) returned %d, but %d for one less", full, acked, bits, further)
		}
	})
}

func TestPromise28Truncate(t *testing.T) {
	for _, bits := range numberLengths {
		for full := 0; full <= impl.MaxNumber; full++ {
			value := impl.NumberTruncate(full, bits)
			if value < 0 || value >= 1<<bits || (full-value)%(1<<bits) != 0 {
				t.Fatalf("NumberTruncate(%d, %d) returned %d", full, bits, value)
			}
		}
	}
}

func TestPromise29Interval(t *testing.T) {
	forTruncated(func(largest int, value int, bits int) {
		n, want, half := impl.NumberExpand(largest, value, bits), largest+1, 1<<bits/2
		if n < 0 || n%(1<<bits) != value {
			t.Fatalf("NumberExpand(%d, %d, %d) returned %d, which has other last bits", largest, value, bits, n)
		}
		if n <= want-half || n > want+half && n != value {
			t.Fatalf("NumberExpand(%d, %d, %d) returned %d, which is not near %d", largest, value, bits, n, want)
		}
	})
}

func TestPromise30Shift(t *testing.T) {
	forTruncated(func(largest int, value int, bits int) {
		size := 1 << bits
		if largest < size || largest+size > impl.MaxNumber {
			return
		}
		n := impl.NumberExpand(largest, value, bits)
		expectExpansion(t, largest+size, value, bits, n+size)
	})
}

func TestPromise31MoreBits(t *testing.T) {
	forNumbersToSend(func(full int, acked int) {
		bits := impl.NumberBits(full, acked)
		if bits == 0 {
			t.Fatalf("NumberBits(%d, %d) returned 0", full, acked)
		}
		if bits+4 <= 12 {
			expectSent(t, full, bits+4, acked)
		}
	})
}
