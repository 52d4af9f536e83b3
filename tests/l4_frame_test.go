package tests

import (
	"fmt"
	"math"
	"math/rand"
	"slices"
	"strings"
	"testing"

	"loop.example/multipathtransport/impl"
)

// frameFields says what a kind of frame has: the largest values of A, B and C,
// or 0 if it does not have the field, and whether it has Data and Ranges.
type frameFields struct {
	kind, maxA, maxB, maxC int
	data, ranges           bool
}

// frameKinds is the table of the document, with its numbers written out.
var frameKinds = []frameFields{
	{kind: 0},
	{kind: 1},
	{kind: 2, maxA: 3, ranges: true},
	{kind: 3, maxA: 2, maxB: 30, maxC: 1, data: true},
	{kind: 4, maxA: 2, maxB: 30},
	{kind: 5, maxA: 9999},
	{kind: 6, maxA: 9999},
	{kind: 7, maxA: 15, maxB: 9999},
	{kind: 8, maxA: 15},
	{kind: 9, data: true},
	{kind: 10, maxA: 99},
}

// ordinaryFrames are valid frames, one of each kind, whose fields that the
// kind has are neither zero nor empty.
var ordinaryFrames = []impl.Frame{
	{Kind: impl.FramePadding},
	{Kind: impl.FramePing},
	{Kind: impl.FrameAck, A: 1, Ranges: rangeList(2, 3, 7, 7)},
	{Kind: impl.FrameStream, A: 1, B: 5, C: 1, Data: "data"},
	{Kind: impl.FrameLimit, A: 2, B: 20},
	{Kind: impl.FrameChallenge, A: 1234},
	{Kind: impl.FrameResponse, A: 1234},
	{Kind: impl.FrameNewId, A: 3, B: 4321},
	{Kind: impl.FrameRetireId, A: 3},
	{Kind: impl.FrameDatagram, Data: "datagram"},
	{Kind: impl.FrameClose, A: 42},
}

// frameText tells frames apart. Nil and empty ranges have the same text.
func frameText(f impl.Frame) string {
	return fmt.Sprintf("{%d %d %d %d %q %v}", f.Kind, f.A, f.B, f.C, f.Data, f.Ranges)
}

func framesText(l []impl.Frame) string {
	text := ""
	for _, f := range l {
		text += frameText(f)
	}
	return text
}

// expectedValid reports whether f is valid, as the document says it.
func expectedValid(f impl.Frame) bool {
	if f.Kind < 0 || f.Kind > 10 {
		return false
	}
	k := frameKinds[f.Kind]
	if f.A < 0 || f.A > k.maxA || f.B < 0 || f.B > k.maxB || f.C < 0 || f.C > k.maxC {
		return false
	}
	if k.ranges != (len(f.Ranges) > 0) || !impl.RangesValid(f.Ranges) {
		return false
	}
	if f.Kind == 3 && f.B+len(f.Data) > 30 {
		return false
	}
	return len(f.Data) <= 12 && (k.data || f.Data == "")
}

// shortestOf returns the shortest encodings of integers, one after the other.
func shortestOf(list ...int) string {
	s := ""
	for _, n := range list {
		s += encodedAs(n, expectedSize(n))
	}
	return s
}

// expectedEncoding returns the encoding of a valid frame, written from the
// document independently of the program.
func expectedEncoding(f impl.Frame) string {
	switch f.Kind {
	case 2:
		s := shortestOf(2, f.A, len(f.Ranges), f.Ranges[0].Low, f.Ranges[0].High-f.Ranges[0].Low)
		for i, r := range f.Ranges[1:] {
			s += shortestOf(r.Low-f.Ranges[i].High-2, r.High-r.Low)
		}
		return s
	case 3:
		return shortestOf(3, f.A, f.B, f.C, len(f.Data)) + f.Data
	case 4, 7:
		return shortestOf(f.Kind, f.A, f.B)
	case 5, 6, 8, 10:
		return shortestOf(f.Kind, f.A)
	case 9:
		return shortestOf(9, len(f.Data)) + f.Data
	}
	return shortestOf(f.Kind)
}

func expectedEncodings(l []impl.Frame) string {
	s := ""
	for _, f := range l {
		s += expectedEncoding(f)
	}
	return s
}

// looseReader reads integers in any encoding; behind the end it reads zeros.
type looseReader string

func (r *looseReader) integer() int {
	n, size, _ := decodedBits(string(*r))
	*r = (*r)[size:]
	return n
}

func (r *looseReader) data() string {
	size := r.integer()
	return string((*r)[:min(size, len(*r))])
}

func (r *looseReader) ranges() []impl.Range {
	list, lowest := []impl.Range{}, 0
	for range min(r.integer(), 17) {
		low := lowest + r.integer()
		high := low + r.integer()
		list, lowest = append(list, impl.Range{Low: low, High: high}), high+2
	}
	return list
}

// expectedDecode returns what FrameDecode must return. It reads s without any
// checks and then compares it with the encoding of what it has read.
func expectedDecode(s string) (impl.Frame, int, bool) {
	r := looseReader(s)
	f := impl.Frame{Kind: r.integer()}
	switch f.Kind {
	case 2:
		f.A, f.Ranges = r.integer(), r.ranges()
	case 3:
		f.A, f.B, f.C, f.Data = r.integer(), r.integer(), r.integer(), r.data()
	case 4, 7:
		f.A, f.B = r.integer(), r.integer()
	case 5, 6, 8, 10:
		f.A = r.integer()
	case 9:
		f.Data = r.data()
	}
	if !expectedValid(f) || !strings.HasPrefix(s, expectedEncoding(f)) {
		return impl.Frame{}, 0, false
	}
	return f, len(expectedEncoding(f)), true
}

// sampleData returns data of all permitted lengths, some of which looks like
// encodings of frames or has bytes above 127.
func sampleData(random *rand.Rand) []string {
	list := []string{"", "\x00", "\xff", strings.Repeat("\x00", 12), strings.Repeat("\xff", 12), "\x03\x01\x00\x01\x01a", "\x02\x00\x01\x02\x01!"}
	for size := range impl.MaxData + 1 {
		list = append(list, strings.Repeat("x", size), randomBytes(random, size))
	}
	return list
}

// sampleTokens returns tokens at the ends of their range and where the length
// of the encoding changes, and some others.
func sampleTokens(random *rand.Rand) []int {
	list := []int{0, 1, 2, 62, 63, 64, 65, 255, 256, 257, impl.MaxToken - 1, impl.MaxToken}
	for range 40 {
		list = append(list, random.Intn(impl.MaxToken+1))
	}
	slices.Sort(list)
	return slices.Compact(list)
}

// ackFrames returns acknowledgements of all paths with all nonempty sample
// sets.
func ackFrames() []impl.Frame {
	list := []impl.Frame{}
	for _, set := range sampleSets() {
		for path := 0; path <= impl.MaxPath && len(set) > 0; path++ {
			list = append(list, impl.Frame{Kind: impl.FrameAck, A: path, Ranges: set})
		}
	}
	return list
}

// streamFrames returns frames for every stream, offset, end and length of
// data that is permitted.
func streamFrames(random *rand.Rand) []impl.Frame {
	list := []impl.Frame{}
	for stream := 0; stream <= impl.MaxStream; stream++ {
		for offset := 0; offset <= impl.MaxOffset; offset++ {
			for size := 0; size <= impl.MaxData && offset+size <= impl.MaxOffset; size++ {
				for end := range 2 {
					list = append(list, impl.Frame{Kind: impl.FrameStream, A: stream, B: offset, C: end, Data: randomBytes(random, size)})
				}
			}
		}
	}
	return list
}

// sampleFrames returns valid frames of every kind, all of them different,
// with each field at both ends of its range.
func sampleFrames() []impl.Frame {
	random := rand.New(rand.NewSource(7))
	list := append(slices.Clone(ordinaryFrames), ackFrames()...)
	list = append(list, streamFrames(random)...)
	for _, data := range sampleData(random) {
		list = append(list, impl.Frame{Kind: impl.FrameDatagram, Data: data})
		list = append(list, impl.Frame{Kind: impl.FrameStream, A: 2, B: impl.MaxOffset - len(data), Data: data})
	}
	for _, token := range sampleTokens(random) {
		list = append(list, impl.Frame{Kind: impl.FrameChallenge, A: token}, impl.Frame{Kind: impl.FrameResponse, A: token})
		for sequence := range 16 {
			list = append(list, impl.Frame{Kind: impl.FrameNewId, A: sequence, B: token})
		}
	}
	for sequence := range 16 {
		list = append(list, impl.Frame{Kind: impl.FrameRetireId, A: sequence})
	}
	for code := range 100 {
		list = append(list, impl.Frame{Kind: impl.FrameClose, A: code})
	}
	for stream := 0; stream <= impl.MaxStream; stream++ {
		for limit := 0; limit <= impl.MaxOffset; limit++ {
			list = append(list, impl.Frame{Kind: impl.FrameLimit, A: stream, B: limit})
		}
	}
	slices.SortFunc(list, func(a, b impl.Frame) int { return strings.Compare(frameText(a), frameText(b)) })
	return slices.CompactFunc(list, func(a, b impl.Frame) bool { return frameText(a) == frameText(b) })
}

// fewFrames returns some of the sample frames of every kind.
func fewFrames() []impl.Frame {
	random := rand.New(rand.NewSource(8))
	list := slices.Clone(ordinaryFrames)
	for _, f := range sampleFrames() {
		if random.Intn(40) == 0 {
			list = append(list, f)
		}
	}
	return list
}

// outsideFrom returns values that are out of the range 0 to limit. Some of
// them would be in range if they were cut to 32, 30, 16 or 8 bits.
func outsideFrom(limit int) []int {
	return []int{
		limit + 1, limit + 2, limit + 256, limit + 1<<16, limit + 1<<30, 1 << 32, 1<<32 + limit, math.MaxInt - limit, math.MaxInt,
		-1, -2, -256, -1 << 32, math.MinInt, math.MinInt + limit,
	}
}

// withFieldsOutside returns f with one of its integers out of the range of
// its kind, which is 0 to 0 for those that the kind does not have.
func withFieldsOutside(f impl.Frame) []impl.Frame {
	list, k := []impl.Frame{}, frameKinds[f.Kind]
	for _, n := range outsideFrom(k.maxA) {
		g := f
		g.A = n
		list = append(list, g)
	}
	for _, n := range outsideFrom(k.maxB) {
		g := f
		g.B = n
		list = append(list, g)
	}
	for _, n := range outsideFrom(k.maxC) {
		g := f
		g.C = n
		list = append(list, g)
	}
	return list
}

// withOtherData returns f with Data and Ranges that are not valid for it.
func withOtherData(f impl.Frame) []impl.Frame {
	list, k := []impl.Frame{}, frameKinds[f.Kind]
	for _, data := range []string{"x", "\x00", "data", strings.Repeat("x", 12), strings.Repeat("x", 13), strings.Repeat("\x00", 14), strings.Repeat("x", 100)} {
		if g := f; !k.data || len(data) > impl.MaxData {
			g.Data = data
			list = append(list, g)
		}
	}
	sets := invalidSets()
	if k.ranges {
		sets = append(sets, nil, []impl.Range{})
	} else {
		sets = append(sets, rangeList(0, 0), rangeList(2, 3, 7, 7), rangeList(0, 999))
	}
	for _, set := range sets {
		g := f
		g.Ranges = set
		list = append(list, g)
	}
	return list
}

// unknownKinds are no kinds of frames. Some of them would be if they were cut
// to 32, 16, 8 or fewer bits.
var unknownKinds = []int{
	-1, -2, -10, -246, -256, math.MinInt, math.MinInt + 3,
	11, 12, 13, 15, 16, 63, 64, 67, 128, 131, 192, 255, 256, 259, 266, 1 << 14, 1<<16 + 3, impl.MaxVarint, 1<<30 + 1, 1 << 32, 1<<32 + 3, math.MaxInt,
}

// invalidFrames returns frames of which exactly one thing is not valid.
func invalidFrames() []impl.Frame {
	list := []impl.Frame{}
	for _, f := range ordinaryFrames {
		list = append(list, withFieldsOutside(f)...)
		list = append(list, withOtherData(f)...)
		for _, kind := range unknownKinds {
			g := f
			g.Kind = kind
			list = append(list, g)
		}
	}
	for size := range impl.MaxData + 1 {
		for _, offset := range []int{31 - size, 32 - size, math.MaxInt - size, math.MaxInt, math.MaxInt - size + 1} {
			list = append(list, impl.Frame{Kind: impl.FrameStream, B: offset, Data: strings.Repeat("x", size)})
		}
	}
	return list
}

// forFieldCombinations calls check for frames with all combinations of values
// near the ends of some range.
func forFieldCombinations(check func(f impl.Frame)) {
	values := []int{-1, 0, 1, 2, 3, 4, 15, 16, 18, 19, 30, 31, 99, 100, 9999, 10000}
	for kind := -1; kind <= 11; kind++ {
		for _, a := range values {
			for _, b := range values {
				for _, c := range []int{-1, 0, 1, 2} {
					for _, data := range []string{"", "x", strings.Repeat("x", 12), strings.Repeat("x", 13)} {
						for _, set := range [][]impl.Range{nil, rangeList(0, 999), rangeList(1, 2, 3, 4)} {
							check(impl.Frame{Kind: kind, A: a, B: b, C: c, Data: data, Ranges: set})
						}
					}
				}
			}
		}
	}
}

func expectFrame(t *testing.T, s string, want impl.Frame, size int) {
	t.Helper()
	f, n, ok := impl.FrameDecode(s)
	if !ok || n != size || frameText(f) != frameText(want) {
		t.Fatalf("FrameDecode(%q) returned %s, %d, %v, not %s, %d", s, frameText(f), n, ok, frameText(want), size)
	}
}

func expectNoFrame(t *testing.T, s string) {
	t.Helper()
	f, n, ok := impl.FrameDecode(s)
	if ok || n != 0 || frameText(f) != frameText(impl.Frame{}) {
		t.Fatalf("FrameDecode(%q) returned %s, %d, %v", s, frameText(f), n, ok)
	}
}

func expectFrames(t *testing.T, s string, want []impl.Frame) {
	t.Helper()
	l, ok := impl.FramesDecode(s)
	if !ok || framesText(l) != framesText(want) {
		t.Fatalf("FramesDecode(%q) returned %s, %v, not %s", s, framesText(l), ok, framesText(want))
	}
}

func expectNoFrames(t *testing.T, s string) {
	t.Helper()
	if l, ok := impl.FramesDecode(s); ok || len(l) != 0 {
		t.Fatalf("FramesDecode(%q) returned %s, %v", s, framesText(l), ok)
	}
}

func expectNotEncoded(t *testing.T, l []impl.Frame) {
	t.Helper()
	if s, ok := impl.FramesEncode(l); ok || s != "" {
		t.Fatalf("FramesEncode of %s returned %q, %v", framesText(l), s, ok)
	}
}

// expectInvalid checks all functions that take a frame.
func expectInvalid(t *testing.T, f impl.Frame) {
	t.Helper()
	if impl.FrameValid(f) || impl.FrameEliciting(f) {
		t.Fatalf("%s is valid or eliciting", frameText(f))
	}
	if s := impl.FrameEncode(f); s != "" {
		t.Fatalf("FrameEncode of %s returned %q", frameText(f), s)
	}
	expectNotEncoded(t, []impl.Frame{f})
}

func expectValid(t *testing.T, f impl.Frame) {
	t.Helper()
	if !impl.FrameValid(f) {
		t.Fatalf("%s is not valid", frameText(f))
	}
	if got, want := impl.FrameEncode(f), expectedEncoding(f); got != want {
		t.Fatalf("FrameEncode of %s returned %q, not %q", frameText(f), got, want)
	}
}

func TestFrameConstants(t *testing.T) {
	if impl.MaxPath != 3 || impl.MaxStream != 2 || impl.MaxOffset != 30 || impl.MaxData != 12 || impl.MaxToken != 9999 || impl.MaxFrames != 6 {
		t.Error("a limit has another value")
	}
	kinds := []int{
		impl.FramePadding, impl.FramePing, impl.FrameAck, impl.FrameStream, impl.FrameLimit, impl.FrameChallenge,
		impl.FrameResponse, impl.FrameNewId, impl.FrameRetireId, impl.FrameDatagram, impl.FrameClose,
	}
	for i, kind := range kinds {
		if kind != i || frameKinds[i].kind != i || ordinaryFrames[i].Kind != i {
			t.Errorf("kind %d has the constant %d", i, kind)
		}
	}
}

// TestFrameBytes checks encodings of all kinds byte by byte.
func TestFrameBytes(t *testing.T) {
	for _, c := range []struct {
		f    impl.Frame
		want string
	}{
		{impl.Frame{Kind: 0}, "\x00"},
		{impl.Frame{Kind: 1}, "\x01"},
		{impl.Frame{Kind: 2, Ranges: rangeList(2, 3)}, "\x02\x00\x01\x02\x01"},
		{impl.Frame{Kind: 2, A: 3, Ranges: rangeList(0, 0)}, "\x02\x03\x01\x00\x00"},
		{impl.Frame{Kind: 2, A: 1, Ranges: rangeList(0, 0, 2, 2)}, "\x02\x01\x02\x00\x00\x00\x00"},
		{impl.Frame{Kind: 2, A: 1, Ranges: rangeList(4, 6, 9, 10)}, "\x02\x01\x02\x04\x02\x01\x01"},
		{impl.Frame{Kind: 2, A: 2, Ranges: rangeList(0, 999)}, "\x02\x02\x01\x00\x43\xe7"},
		{impl.Frame{Kind: 2, A: 2, Ranges: rangeList(999, 999)}, "\x02\x02\x01\x43\xe7\x00"},
		{impl.Frame{Kind: 2, Ranges: rangeList(63, 126, 192, 256)}, "\x02\x00\x02\x3f\x3f\x40\x40\x40\x40"},
		{impl.Frame{Kind: 2, Ranges: spacedRanges(16, 0, 1, 1)}, "\x02\x00\x10" + strings.Repeat("\x00\x00", 16)},
		{impl.Frame{Kind: 3, A: 1, C: 1, Data: "a"}, "\x03\x01\x00\x01\x01a"},
		{impl.Frame{Kind: 3}, "\x03\x00\x00\x00\x00"},
		{impl.Frame{Kind: 3, A: 2, B: 30, C: 1}, "\x03\x02\x1e\x01\x00"},
		{impl.Frame{Kind: 3, B: 18, Data: "abcdefghijkl"}, "\x03\x00\x12\x00\x0cabcdefghijkl"},
		{impl.Frame{Kind: 4, A: 2, B: 30}, "\x04\x02\x1e"},
		{impl.Frame{Kind: 4}, "\x04\x00\x00"},
		{impl.Frame{Kind: 5}, "\x05\x00"},
		{impl.Frame{Kind: 5, A: 63}, "\x05\x3f"},
		{impl.Frame{Kind: 5, A: 64}, "\x05\x40\x40"},
		{impl.Frame{Kind: 5, A: 9999}, "\x05\x67\x0f"},
		{impl.Frame{Kind: 6, A: 9999}, "\x06\x67\x0f"},
		{impl.Frame{Kind: 6, A: 1}, "\x06\x01"},
		{impl.Frame{Kind: 7, A: 15, B: 9999}, "\x07\x0f\x67\x0f"},
		{impl.Frame{Kind: 7}, "\x07\x00\x00"},
		{impl.Frame{Kind: 8, A: 15}, "\x08\x0f"},
		{impl.Frame{Kind: 8}, "\x08\x00"},
		{impl.Frame{Kind: 9}, "\x09\x00"},
		{impl.Frame{Kind: 9, Data: "\x00\xff"}, "\x09\x02\x00\xff"},
		{impl.Frame{Kind: 9, Data: "abcdefghijkl"}, "\x09\x0cabcdefghijkl"},
		{impl.Frame{Kind: 10}, "\x0a\x00"},
		{impl.Frame{Kind: 10, A: 63}, "\x0a\x3f"},
		{impl.Frame{Kind: 10, A: 99}, "\x0a\x40\x63"},
	} {
		if got := impl.FrameEncode(c.f); got != c.want {
			t.Errorf("FrameEncode of %s returned %q, not %q", frameText(c.f), got, c.want)
		}
		expectFrame(t, c.want, c.f, len(c.want))
		expectFrame(t, c.want+"\x00", c.f, len(c.want))
	}
}

func TestFrameSamplesAreValid(t *testing.T) {
	for _, f := range sampleFrames() {
		expectValid(t, f)
	}
}

func TestFrameInvalid(t *testing.T) {
	for _, f := range invalidFrames() {
		expectInvalid(t, f)
	}
}

// TestFrameUnusedFields has, for every kind, each field that it does not have
// with a value that would be valid for another kind.
func TestFrameUnusedFields(t *testing.T) {
	for _, f := range ordinaryFrames {
		k := frameKinds[f.Kind]
		a, b, c, data, ranges := f, f, f, f, f
		a.A, b.B, c.C, data.Data, ranges.Ranges = 1, 1, 1, "x", rangeList(1, 1)
		for _, one := range []struct {
			f   impl.Frame
			has bool
		}{{a, k.maxA > 0}, {b, k.maxB > 0}, {c, k.maxC > 0}, {data, k.data}, {ranges, k.ranges}} {
			if one.has {
				expectValid(t, one.f)
			} else {
				expectInvalid(t, one.f)
			}
		}
	}
}

// TestFrameEndsOfFields has each integer of each kind at both ends of its
// range, and next to them.
func TestFrameEndsOfFields(t *testing.T) {
	for _, f := range ordinaryFrames {
		f.Data = ""
		k := frameKinds[f.Kind]
		for _, n := range []int{-1, 0, 1, k.maxA - 1, k.maxA, k.maxA + 1} {
			f.A = n
			for _, n := range []int{-1, 0, 1, k.maxB - 1, k.maxB, k.maxB + 1} {
				f.B = n
				for _, n := range []int{-1, 0, 1, k.maxC, k.maxC + 1} {
					f.C = n
					if inside := f.A >= 0 && f.A <= k.maxA && f.B >= 0 && f.B <= k.maxB && f.C >= 0 && f.C <= k.maxC; inside {
						expectValid(t, f)
					} else {
						expectInvalid(t, f)
					}
				}
			}
		}
	}
}

func TestFrameDataLengths(t *testing.T) {
	for size := range 3 * impl.MaxData {
		for _, f := range []impl.Frame{{Kind: impl.FrameDatagram}, {Kind: impl.FrameStream}, {Kind: impl.FrameStream, A: 2, B: 18, C: 1}} {
			f.Data = strings.Repeat("\xc0", size)
			if size <= impl.MaxData {
				expectValid(t, f)
			} else {
				expectInvalid(t, f)
			}
		}
	}
	expectInvalid(t, impl.Frame{Kind: impl.FrameDatagram, Data: strings.Repeat("x", 1<<20)})
}

func TestFrameAckSets(t *testing.T) {
	for path := 0; path <= impl.MaxPath; path++ {
		for _, set := range [][]impl.Range{
			rangeList(0, 0), rangeList(999, 999), rangeList(0, 999), rangeList(0, 0, 2, 2), rangeList(0, 997, 999, 999),
			spacedRanges(16, 0, 1, 1), spacedRanges(16, 969, 1, 1), spacedRanges(16, 7, 30, 30),
		} {
			expectValid(t, impl.Frame{Kind: impl.FrameAck, A: path, Ranges: set})
		}
		for _, set := range append(invalidSets(), nil, []impl.Range{}, spacedRanges(17, 0, 1, 1), rangeList(1, 2, 3, 3), rangeList(0, 1000)) {
			expectInvalid(t, impl.Frame{Kind: impl.FrameAck, A: path, Ranges: set})
		}
	}
}

func TestFrameWithEmptyRanges(t *testing.T) {
	for _, f := range ordinaryFrames {
		if f.Kind != impl.FrameAck {
			f.Ranges = []impl.Range{}
			expectValid(t, f)
		}
	}
}

func TestPromise32DecodeOfEncode(t *testing.T) {
	tails := []string{"", "\x00", "\x40", "\xc0", "\xff\xff\xff\xff", "and any other bytes", "\x02\x00\x01\x02\x01"}
	for _, f := range sampleFrames() {
		s := impl.FrameEncode(f)
		if s == "" {
			t.Fatalf("FrameEncode of %s is empty", frameText(f))
		}
		for _, tail := range tails {
			expectFrame(t, s+tail, f, len(s))
		}
	}
}

// damaged returns s with each byte in turn replaced, removed or doubled.
func damaged(s string) []string {
	list := []string{}
	for i := range len(s) {
		for _, b := range []string{"", "\x00", "\x01", "\x02", "\x03", "\x0c", "\x0d", "\x11", "\x1f", "\x40\x00", "\x80\x00\x00\x00", "\xbf\xff\xff\xff", "\xc0", "\xff", s[i:i+1] + s[i:i+1]} {
			list = append(list, s[:i]+b+s[i+1:])
		}
		list = append(list, s[:i]+"\x40"+s[i:], s[:i]+"\x80\x00\x00"+s[i:], s[:i]+string([]byte{s[i] + 1})+s[i+1:], s[:i]+string([]byte{s[i] - 1})+s[i+1:])
	}
	return list
}

// frameStrings returns strings of which some start with an encoding of a
// frame and others almost do.
func frameStrings() []string {
	list := shortStrings()
	for _, f := range fewFrames() {
		list = append(list, damaged(expectedEncoding(f))...)
	}
	random := rand.New(rand.NewSource(9))
	for range 50000 {
		b := []byte(randomBytes(random, random.Intn(12)))
		for i := range b {
			b[i] %= byte(2 + random.Intn(40))
		}
		list = append(list, string([]byte{byte(random.Intn(12))})+string(b))
	}
	return list
}

func TestPromise33EncodeOfDecode(t *testing.T) {
	for _, s := range frameStrings() {
		f, n, ok := impl.FrameDecode(s)
		if !ok {
			continue
		}
		if n <= 0 || n > len(s) || impl.FrameEncode(f) != s[:n] {
			t.Fatalf("FrameDecode(%q) returned %s, %d, whose encoding is %q", s, frameText(f), n, impl.FrameEncode(f))
		}
	}
}

// TestDecodeOfAnyFrameString compares FrameDecode with the document's
// definition, for strings with and without frames.
func TestDecodeOfAnyFrameString(t *testing.T) {
	list, count := frameStrings(), 0
	for _, s := range list {
		if f, n, ok := expectedDecode(s); ok {
			expectFrame(t, s, f, n)
			count++
		} else {
			expectNoFrame(t, s)
		}
	}
	if count < 1000 || count > len(list)-1000 {
		t.Errorf("%d of %d strings start with a frame", count, len(list))
	}
}

// TestDecodeOfNoFrame states the strings, so that it needs no other function.
func TestDecodeOfNoFrame(t *testing.T) {
	for _, s := range []string{
		"",
		// No such kind.
		"\x0b", "\x0b\x00", "\x0c\x00\x00", "\x3f", "\x40\x40", "\x40\x43", "\x40\x80", "\x41\x03\x00\x00\x00\x00", "\x80\x01\x00\x00", "\xbf\xff\xff\xff", "\xc0", "\xff",
		// The end is missing.
		"\x02", "\x02\x00", "\x02\x00\x01", "\x02\x00\x01\x02", "\x02\x00\x02\x02\x01", "\x02\x00\x02\x02\x01\x00", "\x02\x00\x01\x40", "\x02\x00\x01\x02\x43",
		"\x03", "\x03\x01", "\x03\x01\x00", "\x03\x01\x00\x01", "\x03\x01\x00\x01\x01", "\x03\x01\x00\x01\x02a",
		"\x04", "\x04\x00", "\x05", "\x05\x40", "\x06", "\x06\x67", "\x07", "\x07\x00", "\x07\x00\x40", "\x08", "\x09", "\x09\x01", "\x09\x0cabcdefghijk", "\x0a", "\x0a\x40",
		// An integer does not have its shortest encoding.
		"\x40\x00", "\x40\x01", "\x80\x00\x00\x00", "\x40\x03\x01\x00\x01\x01a", "\x80\x00\x00\x03\x01\x00\x01\x01a",
		"\x03\x40\x01\x00\x01\x01a", "\x03\x01\x40\x00\x01\x01a", "\x03\x01\x00\x40\x01\x01a", "\x03\x01\x00\x01\x40\x01a", "\x03\x01\x00\x01\x80\x00\x00\x01a",
		"\x02\x40\x00\x01\x02\x01", "\x02\x00\x40\x01\x02\x01", "\x02\x00\x01\x40\x02\x01", "\x02\x00\x01\x02\x40\x01", "\x02\x00\x01\x80\x00\x00\x40\x01",
		"\x04\x40\x00\x00", "\x04\x00\x40\x00", "\x05\x40\x3f", "\x05\x80\x00\x00\x40", "\x06\x40\x00", "\x07\x40\x0f\x00", "\x07\x0f\x80\x00\x27\x0f", "\x08\x40\x0f", "\x09\x40\x00", "\x09\x40\x01a", "\x0a\x40\x3f",
		// A field is out of range.
		"\x02\x04\x01\x02\x01", "\x02\x40\x40\x01\x02\x01", "\x03\x03\x00\x00\x00", "\x03\x00\x1f\x00\x00", "\x03\x00\x00\x02\x00", "\x03\x00\x1e\x00\x01a", "\x03\x00\x13\x00\x0cabcdefghijkl", "\x03\x00\xbf\xff\xff\xff\x00\x01a",
		"\x04\x03\x00", "\x04\x00\x1f", "\x05\x67\x10", "\x05\x80\x00\x40\x00", "\x06\x67\x10", "\x06\xbf\xff\xff\xff", "\x07\x10\x00", "\x07\x00\x67\x10", "\x08\x10", "\x08\x40\x40", "\x0a\x40\x64",
		// Data is too long, or its length is that of more than the rest.
		"\x09\x0dabcdefghijklm", "\x09\x0dabcdefghijkl", "\x09\x40\x40" + strings.Repeat("x", 64), "\x09\xbf\xff\xff\xff", "\x09\xbf\xff\xff\xffabc", "\x03\x00\x00\x00\x0dabcdefghijklm", "\x03\x00\x00\x00\x0c", "\x03\x00\x00\x00\xbf\xff\xff\xffabc",
		// There is no range, or there are more than MaxRanges.
		"\x02\x00\x00", "\x02\x00\x00\x02\x01", "\x02\x00\x11" + strings.Repeat("\x00", 34), "\x02\x00\x11" + strings.Repeat("\x00", 40), "\x02\x00\x40\x40" + strings.Repeat("\x00", 128), "\x02\x00\xbf\xff\xff\xff" + strings.Repeat("\x00", 64),
		// A range is above MaxNumber.
		"\x02\x00\x01\x43\xe8\x00", "\x02\x00\x01\x00\x43\xe8", "\x02\x00\x01\x43\xe7\x01", "\x02\x00\x02\x00\x43\xe7\x00\x00", "\x02\x00\x02\x43\xe6\x00\x00\x00", "\x02\x00\x01\xbf\xff\xff\xff\xbf\xff\xff\xff", "\x02\x00\x02\xbf\xff\xff\xff\xbf\xff\xff\xff\xbf\xff\xff\xff\xbf\xff\xff\xff",
	} {
		expectNoFrame(t, s)
		expectNoFrames(t, s)
		if s != "" {
			expectNoFrames(t, "\x00"+s)
		}
	}
}

// TestDecodeAtTheEdges has the neighbours of what TestDecodeOfNoFrame rejects.
func TestDecodeAtTheEdges(t *testing.T) {
	for s, want := range map[string]impl.Frame{
		"\x02\x03\x01\x02\x01":                      {Kind: 2, A: 3, Ranges: rangeList(2, 3)},
		"\x02\x00\x10" + strings.Repeat("\x00", 32): {Kind: 2, Ranges: spacedRanges(16, 0, 1, 1)},
		"\x02\x00\x01\x43\xe7\x00":                  {Kind: 2, Ranges: rangeList(999, 999)},
		"\x02\x00\x01\x00\x43\xe7":                  {Kind: 2, Ranges: rangeList(0, 999)},
		"\x02\x00\x02\x00\x43\xe5\x00\x00":          {Kind: 2, Ranges: rangeList(0, 997, 999, 999)},
		"\x02\x00\x02\x43\xe5\x00\x00\x00":          {Kind: 2, Ranges: rangeList(997, 997, 999, 999)},
		"\x03\x02\x1e\x00\x00":                      {Kind: 3, A: 2, B: 30},
		"\x03\x00\x1d\x00\x01a":                     {Kind: 3, B: 29, Data: "a"},
		"\x03\x00\x12\x01\x0cabcdefghijkl":          {Kind: 3, B: 18, C: 1, Data: "abcdefghijkl"},
		"\x04\x02\x1e":                              {Kind: 4, A: 2, B: 30},
		"\x05\x67\x0f":                              {Kind: 5, A: 9999},
		"\x06\x67\x0f":                              {Kind: 6, A: 9999},
		"\x07\x0f\x67\x0f":                          {Kind: 7, A: 15, B: 9999},
		"\x08\x0f":                                  {Kind: 8, A: 15},
		"\x09\x0cabcdefghijkl":                      {Kind: 9, Data: "abcdefghijkl"},
		"\x09\x00":                                  {Kind: 9},
		"\x0a\x40\x63":                              {Kind: 10, A: 99},
	} {
		expectFrame(t, s, want, len(s))
		expectFrame(t, s+"\xc0", want, len(s))
		expectFrames(t, s, []impl.Frame{want})
	}
}

func TestPromise34CutOff(t *testing.T) {
	for _, f := range sampleFrames() {
		s := expectedEncoding(f)
		expectFrame(t, s, f, len(s))
		for i := range len(s) {
			expectNoFrame(t, s[:i])
		}
	}
}

func TestPromise35EmptyIfInvalid(t *testing.T) {
	check := func(f impl.Frame) {
		valid := expectedValid(f)
		if impl.FrameValid(f) != valid || (impl.FrameEncode(f) != "") != valid {
			t.Fatalf("FrameValid of %s returned %v, FrameEncode %q", frameText(f), impl.FrameValid(f), impl.FrameEncode(f))
		}
	}
	forFieldCombinations(check)
	for _, f := range sampleFrames() {
		check(f)
	}
	for _, f := range invalidFrames() {
		check(f)
	}
}

// randomFrames returns count valid frames.
func randomFrames(random *rand.Rand, samples []impl.Frame, count int) []impl.Frame {
	list := []impl.Frame{}
	for range count {
		if random.Intn(2) == 0 {
			list = append(list, ordinaryFrames[random.Intn(len(ordinaryFrames))])
		} else {
			list = append(list, samples[random.Intn(len(samples))])
		}
	}
	return list
}

// forFrameLists calls check for lists of 1 to MaxFrames valid frames.
func forFrameLists(check func(l []impl.Frame)) {
	random := rand.New(rand.NewSource(10))
	samples := sampleFrames()
	for _, f := range ordinaryFrames {
		check([]impl.Frame{f})
		check(slices.Repeat([]impl.Frame{f}, impl.MaxFrames))
		for _, g := range ordinaryFrames {
			check([]impl.Frame{f, g})
		}
	}
	for count := 1; count <= impl.MaxFrames; count++ {
		for range 300 {
			check(randomFrames(random, samples, count))
		}
	}
}

func TestPromise36FramesDecodeOfEncode(t *testing.T) {
	forFrameLists(func(l []impl.Frame) {
		s, ok := impl.FramesEncode(l)
		if !ok {
			t.Fatalf("FramesEncode of %s failed", framesText(l))
		}
		expectFrames(t, s, l)
	})
}

// expectedFrames returns what FramesDecode must return.
func expectedFrames(s string) ([]impl.Frame, bool) {
	list := []impl.Frame{}
	for s != "" {
		f, n, ok := expectedDecode(s)
		if !ok {
			return nil, false
		}
		list, s = append(list, f), s[n:]
	}
	return list, len(list) >= 1 && len(list) <= 6
}

func TestPromise37FramesEncodeOfDecode(t *testing.T) {
	list := frameStrings()
	forFrameLists(func(l []impl.Frame) {
		s := expectedEncodings(l)
		list = append(list, s, s+"\x01", s+"\x0b", s+"\x40\x00", s+s, s[:len(s)-1], s[1:], s[len(s)/2:])
	})
	for _, s := range list {
		l, ok := impl.FramesDecode(s)
		if encoded, valid := impl.FramesEncode(l); ok && (!valid || encoded != s) {
			t.Fatalf("FramesDecode(%q) returned %s, whose encoding is %q", s, framesText(l), encoded)
		}
		if want, ok := expectedFrames(s); ok {
			expectFrames(t, s, want)
		} else {
			expectNoFrames(t, s)
		}
	}
}

func TestPromise38FramesConcatenation(t *testing.T) {
	random := rand.New(rand.NewSource(11))
	samples := sampleFrames()
	for a := 1; a <= impl.MaxFrames; a++ {
		for b := 1; b <= impl.MaxFrames; b++ {
			for range 30 {
				first, second := randomFrames(random, samples, a), randomFrames(random, samples, b)
				s, u := expectedEncodings(first), expectedEncodings(second)
				expectFrames(t, s, first)
				expectFrames(t, u, second)
				if a+b <= impl.MaxFrames {
					expectFrames(t, s+u, slices.Concat(first, second))
				} else {
					expectNoFrames(t, s+u)
				}
			}
		}
	}
}

func TestPromise39FramesEncode(t *testing.T) {
	forFrameLists(func(l []impl.Frame) {
		joined := ""
		for _, f := range l {
			joined += impl.FrameEncode(f)
		}
		if s, ok := impl.FramesEncode(l); !ok || s != joined || s != expectedEncodings(l) {
			t.Fatalf("FramesEncode of %s returned %q, %v, not %q", framesText(l), s, ok, joined)
		}
	})
	expectNotEncoded(t, nil)
	expectNotEncoded(t, []impl.Frame{})
	for _, f := range ordinaryFrames {
		for count := impl.MaxFrames + 1; count <= 4*impl.MaxFrames; count++ {
			expectNotEncoded(t, slices.Repeat([]impl.Frame{f}, count))
		}
	}
}

// TestFramesEncodeOfInvalidFrame has an invalid frame at every place of lists
// of every length.
func TestFramesEncodeOfInvalidFrame(t *testing.T) {
	random := rand.New(rand.NewSource(12))
	for _, f := range invalidFrames() {
		count := 1 + random.Intn(impl.MaxFrames+1)
		for i := range count {
			l := randomFrames(random, ordinaryFrames, count)
			l[i] = f
			expectNotEncoded(t, l)
		}
	}
}

// TestFramesDecodeOfNoFrames puts what is no frame behind 0 to MaxFrames
// frames.
func TestFramesDecodeOfNoFrames(t *testing.T) {
	expectNoFrames(t, "")
	for _, f := range ordinaryFrames {
		one := expectedEncoding(f)
		for count := 1; count <= 3*impl.MaxFrames; count++ {
			if count <= impl.MaxFrames {
				expectFrames(t, strings.Repeat(one, count), slices.Repeat([]impl.Frame{f}, count))
			} else {
				expectNoFrames(t, strings.Repeat(one, count))
			}
		}
		for count := range impl.MaxFrames + 1 {
			for _, bad := range []string{"\x0b", "\x40\x00", "\xc0", "\xff", "\x02\x00\x00", "\x04\x03\x00"} {
				expectNoFrames(t, strings.Repeat(one, count)+bad)
				expectNoFrames(t, strings.Repeat(one, count)+bad+one)
			}
			for _, cut := range []string{"\x02\x00\x01", "\x03\x00\x00\x00", "\x05", "\x09\x01"} {
				expectNoFrames(t, strings.Repeat(one, count)+cut)
			}
		}
	}
}

func TestPromise40Eliciting(t *testing.T) {
	check := func(f impl.Frame) {
		want := expectedValid(f) && f.Kind != 0 && f.Kind != 2 && f.Kind != 10
		if got := impl.FrameEliciting(f); got != want {
			t.Fatalf("FrameEliciting of %s returned %v", frameText(f), got)
		}
	}
	forFieldCombinations(check)
	for _, f := range sampleFrames() {
		check(f)
	}
	for _, f := range invalidFrames() {
		check(f)
	}
}

func TestElicitingKinds(t *testing.T) {
	for kind, want := range []bool{false, true, false, true, true, true, true, true, true, true, false} {
		if got := impl.FrameEliciting(ordinaryFrames[kind]); got != want {
			t.Errorf("FrameEliciting of %s returned %v", frameText(ordinaryFrames[kind]), got)
		}
	}
}

func TestPromise41DifferentEncodings(t *testing.T) {
	seen := map[string]impl.Frame{}
	for _, f := range sampleFrames() {
		s := impl.FrameEncode(f)
		if g, ok := seen[s]; ok {
			t.Fatalf("%s and %s have the encoding %q", frameText(f), frameText(g), s)
		}
		seen[s] = f
		if again := impl.FrameEncode(f); again != s {
			t.Fatalf("%s has the encodings %q and %q", frameText(f), s, again)
		}
	}
}

// TestEqualFramesHaveEqualEncodings has frames that differ only in where
// their memory is, or in that it is nil.
func TestEqualFramesHaveEqualEncodings(t *testing.T) {
	for _, f := range sampleFrames() {
		g := f
		g.Data = strings.Clone(f.Data)
		g.Ranges = append(make([]impl.Range, 0, 20), f.Ranges...)
		if impl.FrameEncode(f) != impl.FrameEncode(g) {
			t.Fatalf("%s has the encodings %q and %q", frameText(f), impl.FrameEncode(f), impl.FrameEncode(g))
		}
	}
}

func TestPromise42AckOfAnySet(t *testing.T) {
	for _, set := range sampleSets() {
		for path := -1; path <= impl.MaxPath+1; path++ {
			f := impl.Frame{Kind: impl.FrameAck, A: path, Ranges: set}
			if path < 0 || path > impl.MaxPath || len(set) == 0 {
				expectInvalid(t, f)
				continue
			}
			g, _, ok := impl.FrameDecode(impl.FrameEncode(f))
			if !impl.FrameValid(f) || !ok || g.A != path || !slices.Equal(g.Ranges, set) {
				t.Fatalf("the acknowledgement of %v for path %d is decoded as %s, %v", set, path, frameText(g), ok)
			}
		}
	}
}

func TestPromise43Stream(t *testing.T) {
	offsets := append(outsideFrom(impl.MaxOffset), math.MaxInt-impl.MaxData, math.MaxInt-impl.MaxData+1)
	for offset := -15; offset <= 45; offset++ {
		offsets = append(offsets, offset)
	}
	for _, offset := range offsets {
		for size := range 45 {
			f := impl.Frame{Kind: impl.FrameStream, B: offset, Data: strings.Repeat("x", size)}
			want := 0 <= offset && size <= 12 && offset <= 30-size
			if got := impl.FrameValid(f); got != want {
				t.Fatalf("FrameValid of %s returned %v", frameText(f), got)
			}
		}
	}
}

func TestFrameArgumentsStayAsTheyAre(t *testing.T) {
	ranges := append(make([]impl.Range, 0, 20), rangeList(1, 2, 5, 6, 9, 9)...)
	list := append(make([]impl.Frame, 0, 12), ordinaryFrames...)
	list[impl.FrameAck].Ranges = ranges
	beforeRanges, before := slices.Clone(ranges[:cap(ranges)]), framesText(list[:cap(list)])
	for i, f := range list {
		impl.FrameValid(f)
		impl.FrameEncode(f)
		impl.FrameEliciting(f)
		impl.FramesEncode(list[i:])
		impl.FramesEncode(list[:i])
	}
	if !slices.Equal(ranges[:cap(ranges)], beforeRanges) || framesText(list[:cap(list)]) != before {
		t.Error("an argument was changed")
	}
}

func TestFrameResultsShareNoMemory(t *testing.T) {
	one := expectedEncoding(ordinaryFrames[impl.FrameAck])
	first, _, _ := impl.FrameDecode(one)
	second, _, _ := impl.FrameDecode(one)
	list, _ := impl.FramesDecode(one + one + one)
	other, _ := impl.FramesDecode(one + one + one)
	overwrite(first.Ranges)
	overwrite(list[1].Ranges)
	for _, f := range []impl.Frame{second, list[0], list[2], other[0], other[1], other[2]} {
		if frameText(f) != frameText(ordinaryFrames[impl.FrameAck]) {
			t.Fatalf("two results share memory: %s", frameText(f))
		}
	}
	for i := range list[:cap(list)] {
		list[:cap(list)][i] = impl.Frame{Kind: 99}
	}
	expectFrames(t, one+one+one, other)
}
