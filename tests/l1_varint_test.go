package tests

import (
	"fmt"
	"math"
	"math/rand"
	"slices"
	"strings"
	"testing"

	"loop.example/multipathtransport/impl"
)

// varintSamples returns integers that can be encoded, ascending: all small
// ones, the neighbourhoods of the edges, and some of every magnitude.
func varintSamples() []int {
	samples := []int{}
	for n := range 1 << 10 {
		samples = append(samples, n)
	}
	for _, edge := range []int{16384, 1 << 16, 1 << 22, 1 << 24, 1 << 29} {
		for n := edge - 3; n <= edge+3; n++ {
			samples = append(samples, n)
		}
	}
	for n := impl.MaxVarint - 3; n <= impl.MaxVarint; n++ {
		samples = append(samples, n)
	}
	random := rand.New(rand.NewSource(1))
	for range 2000 {
		samples = append(samples, random.Intn(impl.MaxVarint+1)>>random.Intn(30))
	}
	slices.Sort(samples)
	return slices.Compact(samples)
}

// varintOutside returns integers that cannot be encoded. Some of them would
// be in range if they were cut to 32, 30 or fewer bits.
func varintOutside() []int {
	return []int{
		math.MinInt, math.MinInt + 64, -impl.MaxVarint - 1, -impl.MaxVarint, -16384, -64, -2, -1,
		impl.MaxVarint + 1, impl.MaxVarint + 2, impl.MaxVarint + 64, math.MaxInt32, math.MaxInt - 1, math.MaxInt,
	}
}

// encodedAs returns the encoding of n in 1, 2 or 4 bytes, written from the
// document independently of the program.
func encodedAs(n int, size int) string {
	bits := fmt.Sprintf("%02b%0*b", []int{0, 0, 1, 0, 2}[size], 8*size-2, n)
	encoding := []byte{}
	for i := 0; i < len(bits); i += 8 {
		b := byte(0)
		for _, bit := range bits[i : i+8] {
			b = 2*b + byte(bit-'0')
		}
		encoding = append(encoding, b)
	}
	return string(encoding)
}

// expectedSize returns the smallest of the lengths 1, 2 and 4 that suffices.
func expectedSize(n int) int {
	switch {
	case n <= 63:
		return 1
	case n <= 16383:
		return 2
	}
	return 4
}

// shortStrings returns all strings of at most two bytes, and samples of
// strings with three to six bytes with every first byte.
func shortStrings() []string {
	list := []string{""}
	for a := range 256 {
		list = append(list, string([]byte{byte(a)}))
		for b := range 256 {
			list = append(list, string([]byte{byte(a), byte(b)}))
		}
	}
	random := rand.New(rand.NewSource(2))
	for a := range 256 {
		first := string([]byte{byte(a)})
		for size := 2; size <= 5; size++ {
			list = append(list, first+strings.Repeat("\x00", size), first+strings.Repeat("\xff", size))
			list = append(list, first+randomBytes(random, size), first+"\x00"+randomBytes(random, size-1))
		}
	}
	return list
}

func randomBytes(random *rand.Rand, size int) string {
	b := make([]byte, size)
	for i := range b {
		b[i] = byte(random.Intn(256))
	}
	return string(b)
}

// sampleLists returns lists of integers of every permitted length.
func sampleLists() [][]int {
	random := rand.New(rand.NewSource(3))
	samples := varintSamples()
	lists := [][]int{nil, {0}, {63, 64, 16383, 16384, impl.MaxVarint}, make([]int, impl.MaxList)}
	for size := range impl.MaxList + 1 {
		for range 20 {
			list := make([]int, size)
			for i := range list {
				list[i] = samples[random.Intn(len(samples))]
			}
			lists = append(lists, list)
		}
	}
	return append(lists, slices.Repeat([]int{impl.MaxVarint}, impl.MaxList))
}

// sampleSequence returns count integers and a sequence of their encodings,
// which are often longer than necessary.
func sampleSequence(random *rand.Rand, count int) ([]int, string) {
	samples := varintSamples()
	list, sequence := []int{}, ""
	for range count {
		n := samples[random.Intn(len(samples))]
		size := max(expectedSize(n), []int{1, 2, 4}[random.Intn(3)])
		list, sequence = append(list, n), sequence+encodedAs(n, size)
	}
	return list, sequence
}

func expectDecode(t *testing.T, s string, n int, size int, ok bool) {
	t.Helper()
	gotN, gotSize, gotOk := impl.VarintDecode(s)
	if gotN != n || gotSize != size || gotOk != ok {
		t.Fatalf("VarintDecode(%q) returned %d, %d, %v, not %d, %d, %v", s, gotN, gotSize, gotOk, n, size, ok)
	}
}

func expectSplit(t *testing.T, s string, list []int) {
	t.Helper()
	got, ok := impl.VarintSplit(s)
	if !ok || !slices.Equal(got, list) {
		t.Fatalf("VarintSplit(%q) returned %v, %v, not %v", s, got, ok, list)
	}
}

func expectNoSplit(t *testing.T, s string) {
	t.Helper()
	if got, ok := impl.VarintSplit(s); ok || len(got) != 0 {
		t.Fatalf("VarintSplit(%q) returned %v, %v", s, got, ok)
	}
}

func expectNoJoin(t *testing.T, list []int) {
	t.Helper()
	if got, ok := impl.VarintJoin(list); ok || got != "" {
		t.Fatalf("VarintJoin(%v) returned %q, %v", list, got, ok)
	}
}

func TestVarintConstants(t *testing.T) {
	if impl.MaxVarint != 1073741823 || impl.MaxList != 20 {
		t.Errorf("MaxVarint is %d and MaxList is %d", impl.MaxVarint, impl.MaxList)
	}
}

// TestVarintBytes checks the encodings at the edges byte by byte.
func TestVarintBytes(t *testing.T) {
	for n, want := range map[int]string{
		0:                  "\x00",
		1:                  "\x01",
		63:                 "\x3f",
		64:                 "\x40\x40",
		65:                 "\x40\x41",
		255:                "\x40\xff",
		256:                "\x41\x00",
		16383:              "\x7f\xff",
		16384:              "\x80\x00\x40\x00",
		65536:              "\x80\x01\x00\x00",
		0x01020304:         "\x81\x02\x03\x04",
		impl.MaxVarint - 1: "\xbf\xff\xff\xfe",
		impl.MaxVarint:     "\xbf\xff\xff\xff",
	} {
		if got := impl.VarintEncode(n); got != want {
			t.Errorf("VarintEncode(%d) returned %q, not %q", n, got, want)
		}
		if got := impl.VarintLen(n); got != len(want) {
			t.Errorf("VarintLen(%d) returned %d, not %d", n, got, len(want))
		}
		expectDecode(t, want, n, len(want), true)
	}
}

// TestVarintLayout compares every encoding with the layout of the document.
func TestVarintLayout(t *testing.T) {
	for _, n := range varintSamples() {
		if got, want := impl.VarintEncode(n), encodedAs(n, expectedSize(n)); got != want {
			t.Fatalf("VarintEncode(%d) returned %q, not %q", n, got, want)
		}
	}
}

func TestPromise1DecodeOfEncode(t *testing.T) {
	tails := []string{"", "\x00", "\x40", "\xc0", "\xff\xff\xff\xff", "and any other bytes"}
	for _, n := range varintSamples() {
		for _, tail := range tails {
			expectDecode(t, impl.VarintEncode(n)+tail, n, impl.VarintLen(n), true)
		}
	}
}

func TestPromise2Length(t *testing.T) {
	for _, n := range varintSamples() {
		got := impl.VarintLen(n)
		if got != expectedSize(n) || got != len(impl.VarintEncode(n)) {
			t.Fatalf("VarintLen(%d) returned %d, VarintEncode %q", n, got, impl.VarintEncode(n))
		}
	}
	for _, n := range varintOutside() {
		if size, s := impl.VarintLen(n), impl.VarintEncode(n); size != 0 || s != "" {
			t.Errorf("VarintLen(%d) returned %d, VarintEncode %q", n, size, s)
		}
	}
}

func TestPromise3SizeAtLeastShortest(t *testing.T) {
	for _, n := range varintSamples() {
		for _, size := range []int{1, 2, 4} {
			if size >= expectedSize(n) {
				expectDecode(t, encodedAs(n, size), n, size, true)
			}
		}
	}
	for _, s := range shortStrings() {
		n, size, ok := impl.VarintDecode(s)
		if ok && (size > len(s) || impl.VarintLen(n) == 0 || impl.VarintLen(n) > size) {
			t.Fatalf("VarintDecode(%q) returned %d, %d, but VarintLen is %d", s, n, size, impl.VarintLen(n))
		}
	}
}

func TestPromise4Minimal(t *testing.T) {
	list := shortStrings()
	for _, n := range varintSamples() {
		list = append(list, impl.VarintEncode(n), encodedAs(n, 4), impl.VarintEncode(n)+"\x00")
	}
	for _, s := range list {
		n, _, ok := impl.VarintDecode(s)
		want := ok && s == encodedAs(n, expectedSize(n))
		if got := impl.VarintMinimal(s); got != want || got != (impl.VarintEncode(n) == s) {
			t.Fatalf("VarintMinimal(%q) returned %v", s, got)
		}
	}
}

// TestMinimalEdges states the answers, so that it needs no other function.
func TestMinimalEdges(t *testing.T) {
	for s, want := range map[string]bool{
		"":                     false,
		"\x00":                 true,
		"\x3f":                 true,
		"\x00\x00":             false,
		"\x3f\x40\x40":         false,
		"\x40":                 false,
		"\x40\x00":             false,
		"\x40\x3f":             false,
		"\x40\x40":             true,
		"\x40\x40\x00":         false,
		"\x7f\xff":             true,
		"\x80\x00\x00\x00":     false,
		"\x80\x00\x00\x3f":     false,
		"\x80\x00\x00\x40":     false,
		"\x80\x00\x3f\xff":     false,
		"\x80\x00\x40":         false,
		"\x80\x00\x40\x00":     true,
		"\xbf\xff\xff\xff":     true,
		"\xbf\xff\xff\xff\x00": false,
		"\xc0":                 false,
		"\xc0\x00\x40\x00":     false,
		"\xff\xff\xff\xff":     false,
	} {
		if got := impl.VarintMinimal(s); got != want {
			t.Errorf("VarintMinimal(%q) returned %v", s, got)
		}
	}
}

func TestPromise5CutOff(t *testing.T) {
	for _, n := range varintSamples() {
		s := impl.VarintEncode(n)
		for i := range len(s) {
			expectDecode(t, s[:i], 0, 0, false)
			if impl.VarintMinimal(s[:i]) {
				t.Fatalf("VarintMinimal(%q) holds", s[:i])
			}
		}
	}
	for _, s := range []string{"", "\x40", "\x7f", "\x80", "\xbf", "\x80\x00", "\xbf\xff", "\x80\x00\x00", "\xbf\xff\xff"} {
		expectDecode(t, s, 0, 0, false)
	}
}

func TestPromise6Order(t *testing.T) {
	samples := varintSamples()
	for i, m := range samples {
		for _, n := range append(slices.Clone(samples[max(0, i-2):min(i+3, len(samples))]), 0, 63, 64, 16383, 16384, impl.MaxVarint) {
			if (m < n) != (impl.VarintEncode(m) < impl.VarintEncode(n)) {
				t.Fatalf("the encodings of %d and %d are not in their order", m, n)
			}
		}
	}
}

func TestPromise7SplitOfJoin(t *testing.T) {
	for _, list := range sampleLists() {
		joined, ok := impl.VarintJoin(list)
		if !ok {
			t.Fatalf("VarintJoin(%v) failed", list)
		}
		want := ""
		for _, n := range list {
			want += encodedAs(n, expectedSize(n))
		}
		if joined != want {
			t.Fatalf("VarintJoin(%v) returned %q, not %q", list, joined, want)
		}
		expectSplit(t, joined, list)
	}
}

func TestJoinFails(t *testing.T) {
	expectNoJoin(t, make([]int, impl.MaxList+1))
	expectNoJoin(t, make([]int, 5*impl.MaxList))
	for _, n := range varintOutside() {
		expectNoJoin(t, []int{n})
		expectNoJoin(t, []int{n, 1, 2})
		expectNoJoin(t, []int{1, n, 2})
		expectNoJoin(t, []int{1, 2, n})
		expectNoJoin(t, append(make([]int, impl.MaxList-1), n))
		expectNoJoin(t, append(make([]int, impl.MaxList), n))
	}
}

func TestJoinAndSplitOfNothing(t *testing.T) {
	for _, list := range [][]int{nil, {}} {
		if s, ok := impl.VarintJoin(list); s != "" || !ok {
			t.Errorf("VarintJoin of no integers returned %q, %v", s, ok)
		}
	}
	expectSplit(t, "", nil)
}

func TestPromise8JoinOfSplit(t *testing.T) {
	random := rand.New(rand.NewSource(4))
	list := shortStrings()
	for count := range impl.MaxList + 1 {
		for range 20 {
			want, s := sampleSequence(random, count)
			expectSplit(t, s, want)
			list = append(list, s)
		}
	}
	for _, s := range list {
		split, ok := impl.VarintSplit(s)
		if !ok {
			continue
		}
		joined, ok := impl.VarintJoin(split)
		if !ok || len(joined) > len(s) {
			t.Fatalf("VarintJoin of VarintSplit(%q) returned %q, %v", s, joined, ok)
		}
		expectSplit(t, joined, split)
	}
}

func TestPromise9Concatenation(t *testing.T) {
	random := rand.New(rand.NewSource(5))
	for a := range impl.MaxList + 1 {
		for b := range impl.MaxList + 1 {
			first, s := sampleSequence(random, a)
			second, u := sampleSequence(random, b)
			expectSplit(t, s, first)
			expectSplit(t, u, second)
			if a+b <= impl.MaxList {
				expectSplit(t, s+u, slices.Concat(first, second))
			} else {
				expectNoSplit(t, s+u)
			}
		}
	}
}

func TestSplitOfTooMany(t *testing.T) {
	for _, one := range []string{"\x00", "\x3f", "\x40\x05", "\x7f\xff", "\x80\x00\x00\x05", "\xbf\xff\xff\xff"} {
		n, _, _ := impl.VarintDecode(one)
		expectSplit(t, strings.Repeat(one, impl.MaxList), slices.Repeat([]int{n}, impl.MaxList))
		expectNoSplit(t, strings.Repeat(one, impl.MaxList+1))
		expectNoSplit(t, strings.Repeat(one, 3*impl.MaxList))
	}
}

// TestSplitOfNoSequence puts what is no encoding behind 0 to MaxList integers.
func TestSplitOfNoSequence(t *testing.T) {
	for _, bad := range []string{"\x40", "\x80", "\x80\x00", "\xbf\xff\xff", "\xc0", "\xc0\x00\x00\x00\x00\x00\x00\x00", "\xff"} {
		for count := range impl.MaxList + 1 {
			expectNoSplit(t, strings.Repeat("\x40\x40", count)+bad)
		}
	}
	expectNoSplit(t, "\x01\xc0\x01")
	expectNoSplit(t, "\xff\x01\x01")
}

func TestPromise10FirstByte(t *testing.T) {
	tails := []string{"", "\x00", "\xff", "\x00\x00", "\x00\x00\x00", "\xff\xff\xff", "\x40\x40\x40\x40\x40\x40\x40"}
	for first := range 256 {
		for _, tail := range tails {
			s := string([]byte{byte(first)}) + tail
			if first >= 192 {
				expectDecode(t, s, 0, 0, false)
				expectNoSplit(t, s)
			}
			if first < 64 {
				expectDecode(t, s, first, 1, true)
			}
		}
	}
}

// TestDecodeOfAnyString compares VarintDecode with a decoder on bit strings.
func TestDecodeOfAnyString(t *testing.T) {
	for _, s := range shortStrings() {
		n, size, ok := decodedBits(s)
		expectDecode(t, s, n, size, ok)
	}
}

func decodedBits(s string) (int, int, bool) {
	if s == "" || s[0] >= 192 {
		return 0, 0, false
	}
	size := []int{1, 2, 4}[s[0]/64]
	if len(s) < size {
		return 0, 0, false
	}
	n := int(s[0]) % 64
	for _, b := range []byte(s[1:size]) {
		n = n*256 + int(b)
	}
	return n, size, true
}

func TestVarintArgumentsAndResultsAreSeparate(t *testing.T) {
	list := append(make([]int, 0, 8), 1, 64, -1)
	before := slices.Clone(list[:cap(list)])
	impl.VarintJoin(list[:2])
	impl.VarintJoin(list)
	if !slices.Equal(list[:cap(list)], before) {
		t.Error("VarintJoin changed its argument")
	}
	first, _ := impl.VarintSplit("\x01\x02\x03")
	second, _ := impl.VarintSplit("\x01\x02\x03")
	for i := range first[:cap(first)] {
		first[:cap(first)][i] = 99
	}
	if !slices.Equal(second, []int{1, 2, 3}) {
		t.Error("two results of VarintSplit share memory")
	}
	expectSplit(t, "\x01\x02\x03", []int{1, 2, 3})
}
