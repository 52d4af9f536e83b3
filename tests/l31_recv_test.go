package tests

import (
	"math"
	"math/rand"
	"slices"
	"strings"
	"testing"

	"loop.example/multipathtransport/impl"
)

// noOffsets are not offsets, limits or counts of bytes to read.
var noOffsets = append(outsideFrom(30), -12, -29, -30, -31, 32, 62, math.MinInt+1, math.MinInt+12, math.MaxInt-12)

// tooMuchData is data that no frame can carry.
var tooMuchData = []string{
	strings.Repeat("a", 13), strings.Repeat("a", 14), strings.Repeat("\x00", 13), strings.Repeat("a", 30), strings.Repeat("a", 31),
	strings.Repeat("a", 256), strings.Repeat("a", 256+12), strings.Repeat("a", 1<<16),
}

// putCall is a call of RecvPut.
type putCall struct {
	r      impl.Recv
	offset int
	data   string
	fin    bool
}

func (c putCall) end() int {
	return c.offset + len(c.data)
}

// on returns the same call for another stream.
func (c putCall) on(r impl.Recv) putCall {
	return putCall{r, c.offset, c.data, c.fin}
}

func piece(offset int, data string) impl.Piece {
	return impl.Piece{Offset: offset, Data: data}
}

func recv(read int, final int, limit int, pieces ...impl.Piece) impl.Recv {
	return impl.Recv{Read: read, Pieces: pieces, Final: final, Limit: limit}
}

// drawn returns the stream of a drawing: it has a dot for each byte that was
// read, a minus sign for each one that is missing, and those that wait.
func drawn(drawing string, final int, limit int) impl.Recv {
	var c cells
	for n := range len(drawing) {
		if drawing[n] != '.' && drawing[n] != '-' {
			c[n] = int(drawing[n]) + 1
		}
	}
	return c.recv(strings.Count(drawing, "."), final, limit)
}

func sameRecv(a impl.Recv, b impl.Recv) bool {
	return a.Read == b.Read && a.Final == b.Final && a.Limit == b.Limit && slices.Equal(a.Pieces, b.Pieces)
}

func isZeroRecv(r impl.Recv) bool {
	return sameRecv(r, impl.Recv{})
}

// cells has for each offset 0 if no byte waits there, and otherwise the byte plus 1.
type cells [31]int

func cellsOf(r impl.Recv) cells {
	var c cells
	for _, p := range r.Pieces {
		for i := range len(p.Data) {
			c[p.Offset+i] = int(p.Data[i]) + 1
		}
	}
	return c
}

// recv returns the stream in which these bytes wait.
func (c cells) recv(read int, final int, limit int) impl.Recv {
	r := recv(read, final, limit)
	for n, cell := range c {
		if cell == 0 {
			continue
		}
		if n == 0 || c[n-1] == 0 {
			r.Pieces = append(r.Pieces, piece(n, ""))
		}
		r.Pieces[len(r.Pieces)-1].Data += string([]byte{byte(cell - 1)})
	}
	return r
}

// wasReceived reports whether the byte at an offset waits or was read.
func wasReceived(r impl.Recv, n int) bool {
	return n < r.Read || cellsOf(r)[n] != 0
}

// endOfReceived returns the smallest offset from which on no byte was received.
func endOfReceived(r impl.Recv) int {
	c := cellsOf(r)
	for n := 30; n >= r.Read; n-- {
		if c[n] != 0 {
			return n + 1
		}
	}
	return r.Read
}

// expectedRecvValid checks each rule of the specification on its own.
func expectedRecvValid(r impl.Recv) bool {
	valid := 0 <= r.Limit && r.Limit <= 30 && 0 <= r.Read && r.Read <= r.Limit
	end := r.Read
	for i, p := range r.Pieces {
		valid = valid && len(p.Data) > 0 && r.Read <= p.Offset && p.Offset <= 30 && (i == 0 || p.Offset > end)
		end = p.Offset + len(p.Data)
		valid = valid && end <= r.Limit
	}
	return valid && (r.Final == -1 || r.Read <= r.Final && end <= r.Final && r.Final <= r.Limit)
}

// expectedCodes returns all codes but RecvDone that apply to valid arguments,
// whichever is the first.
func expectedCodes(c putCall) []int {
	codes, waiting, beyond, differs := []int{}, cellsOf(c.r), false, false
	for n := range 31 {
		beyond = beyond || n >= c.end() && (n < c.r.Read || waiting[n] != 0)
	}
	for i := range min(len(c.data), 31-c.offset) {
		there := waiting[c.offset+i]
		differs = differs || there != 0 && there != int(c.data[i])+1
	}
	if c.end() > c.r.Limit {
		codes = append(codes, 1)
	}
	if c.fin && (c.r.Final != -1 && c.r.Final != c.end() || beyond) || !c.fin && c.r.Final != -1 && c.end() > c.r.Final {
		codes = append(codes, 2)
	}
	if differs {
		codes = append(codes, 3)
	}
	return codes
}

// expectedPut follows the sentences of the specification for valid arguments.
func expectedPut(c putCall) (impl.Recv, int) {
	if codes := expectedCodes(c); len(codes) > 0 {
		return c.r, codes[0]
	}
	waiting, final := cellsOf(c.r), c.r.Final
	for i := range len(c.data) {
		if n := c.offset + i; n >= c.r.Read {
			waiting[n] = int(c.data[i]) + 1
		}
	}
	if c.fin {
		final = c.end()
	}
	return waiting.recv(c.r.Read, final, c.r.Limit), 0
}

// expectedReady counts the bytes that wait at Read and directly behind it.
func expectedReady(r impl.Recv) int {
	count, c := 0, cellsOf(r)
	for n := r.Read; n <= 30 && c[n] != 0; n++ {
		count++
	}
	return count
}

// expectedRead follows the sentences of the specification for valid arguments.
func expectedRead(r impl.Recv, n int) (impl.Recv, string) {
	c, text, read := cellsOf(r), []byte{}, r.Read
	for read <= 30 && len(text) < n && c[read] != 0 {
		text = append(text, byte(c[read]-1))
		c[read] = 0
		read++
	}
	return c.recv(read, r.Final, r.Limit), string(text)
}

// letterAt is the byte at an offset of a text in which every byte is another one.
func letterAt(n int) byte {
	return byte('A' + n)
}

// letters returns the bytes from low to high-1 of that text.
func letters(low int, high int) string {
	text := []byte{}
	for n := low; n < high; n++ {
		text = append(text, letterAt(n))
	}
	return string(text)
}

// waitingLayouts returns ways to choose offsets from read to limit-1: none,
// all, single ones, all but single ones, every second one, and some.
func waitingLayouts(source *rand.Rand, read int, limit int) [][]bool {
	middle := (read + limit) / 2
	rules := []func(n int) bool{
		func(n int) bool { return false },
		func(n int) bool { return true },
		func(n int) bool { return n == read },
		func(n int) bool { return n == limit-1 },
		func(n int) bool { return n == middle },
		func(n int) bool { return n != read },
		func(n int) bool { return n != limit-1 },
		func(n int) bool { return n != middle },
		func(n int) bool { return n < middle },
		func(n int) bool { return (n-read)%2 == 0 },
		func(n int) bool { return (n-read)%2 == 1 },
		func(n int) bool { return (n-read)%5 < 3 },
		func(n int) bool { return source.Intn(2) == 0 },
		func(n int) bool { return source.Intn(5) == 0 },
		func(n int) bool { return source.Intn(5) > 0 },
	}
	layouts := [][]bool{}
	for _, rule := range rules {
		waits := make([]bool, 31)
		for n := read; n < limit; n++ {
			waits[n] = rule(n)
		}
		layouts = append(layouts, waits)
	}
	return layouts
}

// streamOf returns a stream in which bytes wait where waits is true: those of
// letterAt, all the same, or any.
func streamOf(source *rand.Rand, read int, waits []bool, limit int) impl.Recv {
	var c cells
	kind := source.Intn(4)
	for n, wait := range waits {
		if wait {
			c[n] = 1 + []int{int(letterAt(n)), 0, 255, source.Intn(256)}[kind]
		}
	}
	return c.recv(read, -1, limit)
}

// withFinals returns a stream with an unknown and with known final sizes.
func withFinals(r impl.Recv) []impl.Recv {
	end, list := endOfReceived(r), []impl.Recv{}
	for _, final := range append([]int{-1}, inside(end, r.Limit, end, end+1, (end+r.Limit)/2, r.Limit)...) {
		r.Final = final
		list = append(list, r)
	}
	return list
}

// sampleRecvs returns valid streams: limits and bytes that were read at and
// next to the ends of their ranges, pieces in various layouts, and final sizes
// at and behind the end of what was received.
func sampleRecvs() []impl.Recv {
	source, list := rand.New(rand.NewSource(31)), []impl.Recv{}
	for _, limit := range []int{0, 1, 2, 3, 5, 12, 13, 20, 29, 30} {
		for _, read := range inside(0, limit, 0, 1, limit/2, limit-1, limit) {
			for _, waits := range waitingLayouts(source, read, limit) {
				list = append(list, withFinals(streamOf(source, read, waits, limit))...)
			}
		}
	}
	return list
}

// fittingData returns data for an offset that differs from no byte that waits.
func fittingData(source *rand.Rand, waiting cells, offset int, size int) string {
	data := []byte(randomBytes(source, size))
	for i := range data {
		if n := offset + i; n <= 30 && waiting[n] != 0 {
			data[i] = byte(waiting[n] - 1)
		}
	}
	return string(data)
}

// withOtherByte returns data with another byte at index i.
func withOtherByte(data string, i int) string {
	return data[:i] + string([]byte{data[i] ^ 1}) + data[i+1:]
}

// edgesOf returns the offsets at which something begins or ends in a stream.
func edgesOf(r impl.Recv) []int {
	edges := []int{0, r.Read, r.Final, r.Limit, 30}
	for _, p := range r.Pieces {
		edges = append(edges, p.Offset, p.Offset+len(p.Data))
	}
	return edges
}

// sampleParts returns offsets of parts and the offsets behind them, both at the
// edges of a stream, next to them, and elsewhere.
func sampleParts(source *rand.Rand, r impl.Recv, count int) []bounds {
	edges, list := edgesOf(r), []bounds{}
	near := func() int { return edges[source.Intn(len(edges))] - 1 + source.Intn(3) }
	for len(list) < count {
		low := near()
		high := []int{low, low + 1, low + 12, low + source.Intn(13), near(), near()}[source.Intn(6)]
		if 0 <= low && low <= 30 && low <= high && high <= low+12 {
			list = append(list, bounds{low, high})
		}
	}
	return list
}

// sampleCalls returns calls of RecvPut for a stream, with data that fits and
// data of which a byte differs from that which may wait, and with each of them
// with and without the end.
func sampleCalls(source *rand.Rand, r impl.Recv, count int) []putCall {
	waiting, list := cellsOf(r), []putCall{}
	for _, part := range sampleParts(source, r, count) {
		data := fittingData(source, waiting, part.low, part.high-part.low)
		for _, fin := range []bool{false, true} {
			list = append(list, putCall{r, part.low, data, fin})
			if data != "" {
				i := []int{0, len(data) / 2, len(data) - 1, source.Intn(len(data))}[source.Intn(4)]
				list = append(list, putCall{r, part.low, withOtherByte(data, i), fin})
			}
		}
	}
	return list
}

// forPuts calls check for valid arguments of RecvPut: sample streams, with
// parts at and next to their edges.
func forPuts(check func(c putCall)) {
	source := rand.New(rand.NewSource(3131))
	for _, r := range sampleRecvs() {
		for _, c := range sampleCalls(source, r, 25) {
			check(c)
		}
	}
}

// forSmallRecvs calls check for all valid streams with a limit in which no
// other bytes than a and b wait.
func forSmallRecvs(limit int, check func(r impl.Recv)) {
	for read := 0; read <= limit; read++ {
		layouts := 1
		for range limit - read {
			layouts *= 3
		}
		for layout := range layouts {
			var c cells
			for n := read; n < limit; n++ {
				c[n] = []int{0, 'a' + 1, 'b' + 1}[layout%3]
				layout /= 3
			}
			r := c.recv(read, -1, limit)
			check(r)
			for r.Final = endOfReceived(r); r.Final <= limit; r.Final++ {
				check(r)
			}
		}
	}
}

// smallParts returns all data of at most size bytes a and b.
func smallParts(size int) []string {
	list, last := []string{""}, []string{""}
	for range size {
		next := []string{}
		for _, s := range last {
			next = append(next, s+"a", s+"b")
		}
		list, last = append(list, next...), next
	}
	return list
}

// forSmallPuts calls check for all small streams and all calls with data that
// ends at most one offset behind their limit.
func forSmallPuts(limit int, check func(c putCall)) {
	parts := smallParts(limit + 1)
	forSmallRecvs(limit, func(r impl.Recv) {
		for offset := 0; offset <= limit+1; offset++ {
			for _, data := range parts {
				if offset+len(data) <= limit+1 {
					check(putCall{r, offset, data, false})
					check(putCall{r, offset, data, true})
				}
			}
		}
	})
}

// forAllPuts calls check for sample streams and for small ones.
func forAllPuts(check func(c putCall)) {
	forPuts(check)
	for limit := range 5 {
		forSmallPuts(limit, check)
	}
}

// forDonePuts calls check for all calls of forAllPuts that return RecvDone,
// with the stream that they return, and fails the test if these are few.
func forDonePuts(t *testing.T, check func(c putCall, next impl.Recv)) {
	t.Helper()
	count := 0
	forAllPuts(func(c putCall) {
		if next, code := impl.RecvPut(c.r, c.offset, c.data, c.fin); code == impl.RecvDone {
			count++
			check(c, next)
		}
	})
	if count < 20000 {
		t.Errorf("only %d calls returned RecvDone", count)
	}
}

// forRecvs calls check for sample streams and for small ones.
func forRecvs(check func(r impl.Recv)) {
	for _, r := range sampleRecvs() {
		check(r)
	}
	for limit := range 5 {
		forSmallRecvs(limit, check)
	}
}

// invalidRecvs returns streams that are valid but for one thing.
func invalidRecvs() []impl.Recv {
	list := []impl.Recv{}
	for _, wrong := range noOffsets {
		list = append(list, recv(0, -1, wrong), recv(5, -1, wrong, piece(7, "ab")), recv(wrong, -1, wrong), recv(0, wrong, wrong), recv(wrong, wrong, wrong))
		list = append(list, recv(wrong, -1, 30), recv(wrong, -1, 0), recv(wrong, 30, 30), recv(wrong, -1, 30, piece(7, "ab")))
		list = append(list, recv(0, -1, 30, piece(wrong, "a")), recv(5, -1, 30, piece(5, "ab"), piece(wrong, "a")), recv(5, 30, 30, piece(wrong, "ab"), piece(20, "a")))
		if wrong != -1 {
			list = append(list, recv(0, wrong, 30), recv(0, wrong, 0), recv(30, wrong, 30), recv(5, wrong, 20, piece(7, "ab")))
		}
	}
	for limit := range 30 {
		// Read, Final, or the end of a piece exceeds Limit by one, or Final is before Read.
		list = append(list, recv(limit+1, -1, limit), recv(limit+1, limit+1, limit), recv(limit, limit+1, limit), recv(0, limit+1, limit), recv(30, -1, limit))
		list = append(list, recv(limit, -1, limit, piece(limit, "a")), recv(0, -1, limit, piece(limit, "a")), recv(0, -1, limit, piece(0, letters(0, limit+1))))
		list = append(list, recv(limit+1, limit, 30), recv(limit+1, 0, 30), recv(30, limit, 30))
		// A piece is before Read, or ends behind Final.
		list = append(list, recv(limit+1, -1, 30, piece(limit, "a")), recv(limit, -1, 30, piece(0, letters(0, limit))))
		list = append(list, recv(0, limit, 30, piece(limit, "a")), recv(0, limit, 30, piece(0, letters(0, limit+1))))
	}
	list = append(list, recv(30, -1, 30, piece(30, "a")), recv(0, -1, 30, piece(30, "a")), recv(0, -1, 30, piece(0, letters(0, 31))), recv(29, 30, 30, piece(29, "ab")))
	return append(list, invalidPieces()...)
}

// invalidPieces returns streams that are valid but for their pieces.
func invalidPieces() []impl.Recv {
	list := []impl.Recv{}
	for _, wrong := range [][]impl.Piece{
		// Empty ones: alone, at Read, before, between and behind others.
		{piece(5, "")}, {piece(7, "")}, {piece(20, "")}, {piece(5, ""), piece(7, "ab")}, {piece(7, "ab"), piece(10, "")}, {piece(7, "ab"), piece(12, ""), piece(14, "c")},
		{piece(7, "ab"), piece(9, "")}, {piece(7, "ab"), piece(8, "")},
		// Before Read, also in part.
		{piece(4, "a")}, {piece(4, "ab")}, {piece(0, "abcdefg")}, {piece(4, "a"), piece(7, "ab")}, {piece(3, "abc"), piece(8, "ab")}, {piece(0, "a")},
		// Overlapping.
		{piece(7, "ab"), piece(8, "bc")}, {piece(7, "ab"), piece(7, "ab")}, {piece(7, "abc"), piece(8, "b")}, {piece(7, "a"), piece(7, "ab")}, {piece(5, "a"), piece(7, "ab"), piece(8, "b")},
		// Touching.
		{piece(7, "ab"), piece(9, "c")}, {piece(5, "a"), piece(6, "b")}, {piece(5, "a"), piece(7, "b"), piece(8, "c")}, {piece(5, "a"), piece(6, "b"), piece(8, "c")},
		// Out of order.
		{piece(9, "a"), piece(7, "a")}, {piece(9, "a"), piece(5, "ab")}, {piece(5, "a"), piece(12, "a"), piece(9, "a")}, {piece(9, "ab"), piece(12, "a"), piece(6, "a")}, {piece(18, "ab"), piece(5, "a")},
		// Beyond Limit, alone and behind a valid one.
		{piece(5, "a"), piece(20, "a")}, {piece(5, "a"), piece(19, "ab")}, {piece(5, "a"), piece(30, "a")}, {piece(5, strings.Repeat("a", 16))}, {piece(5, strings.Repeat("a", 300))}, {piece(19, strings.Repeat("a", 1<<16))},
		// The end overflows.
		{piece(math.MaxInt, "a")}, {piece(math.MaxInt-1, "ab")}, {piece(5, "a"), piece(math.MaxInt-3, "abcdefgh")}, {piece(math.MaxInt, "a"), piece(8, "a")}, {piece(7, "a"), piece(math.MaxInt, "a"), piece(9, "a")}, {piece(math.MinInt, "a")},
	} {
		list = append(list, recv(5, -1, 20, wrong...), recv(5, 20, 20, wrong...))
	}
	// Beyond Final, but not beyond Limit.
	for _, wrong := range [][]impl.Piece{
		{piece(15, "a")}, {piece(14, "ab")}, {piece(5, "a"), piece(15, "a")}, {piece(5, letters(5, 16))}, {piece(5, letters(5, 20))}, {piece(6, "a"), piece(19, "a")},
	} {
		list = append(list, recv(5, 15, 20, wrong...), recv(5, 5, 20, wrong...), recv(0, 0, 30, wrong...))
	}
	return list
}

// put returns the stream after a call that must return RecvDone.
func put(t *testing.T, c putCall) impl.Recv {
	t.Helper()
	next, code := impl.RecvPut(c.r, c.offset, c.data, c.fin)
	if code != impl.RecvDone {
		t.Fatalf("RecvPut%v returned %v, %d", c, next, code)
	}
	return next
}

func expectPut(t *testing.T, c putCall, want impl.Recv, code int) {
	t.Helper()
	if next, got := impl.RecvPut(c.r, c.offset, c.data, c.fin); got != code || !sameRecv(next, want) {
		t.Fatalf("RecvPut%v returned %v, %d, want %v, %d", c, next, got, want, code)
	}
}

// expectNoPut checks that an argument of a call is invalid.
func expectNoPut(t *testing.T, c putCall) {
	t.Helper()
	expectPut(t, c, impl.Recv{}, 4)
}

func expectRecvValid(t *testing.T, r impl.Recv, want bool) {
	t.Helper()
	if impl.RecvValid(r) != want {
		t.Fatalf("RecvValid(%v) returned %t", r, !want)
	}
}

func expectReady(t *testing.T, r impl.Recv, want int) {
	t.Helper()
	if got := impl.RecvReady(r); got != want {
		t.Fatalf("RecvReady(%v) returned %d, want %d", r, got, want)
	}
}

func expectRead(t *testing.T, r impl.Recv, n int, want impl.Recv, text string) {
	t.Helper()
	if next, got := impl.RecvRead(r, n); got != text || !sameRecv(next, want) {
		t.Fatalf("RecvRead(%v, %d) returned %v, %q, want %v, %q", r, n, next, got, want, text)
	}
}

func expectEnded(t *testing.T, r impl.Recv, want bool) {
	t.Helper()
	if impl.RecvEnded(r) != want {
		t.Fatalf("RecvEnded(%v) returned %t", r, !want)
	}
}

func expectGrant(t *testing.T, r impl.Recv, limit int, want impl.Recv, ok bool) {
	t.Helper()
	if next, got := impl.RecvGrant(r, limit); got != ok || !sameRecv(next, want) {
		t.Fatalf("RecvGrant(%v, %d) returned %v, %t, want %v, %t", r, limit, next, got, want, ok)
	}
}

// newRecv returns a new stream, and fails the test if there is none.
func newRecv(t *testing.T, limit int) impl.Recv {
	t.Helper()
	r, ok := impl.RecvNew(limit)
	if !ok || !sameRecv(r, recv(0, -1, limit)) {
		t.Fatalf("RecvNew(%d) returned %v, %t", limit, r, ok)
	}
	return r
}

func TestRecvConstants(t *testing.T) {
	if impl.MaxOffset != 30 || impl.MaxData != 12 {
		t.Error("MaxOffset is not 30, or MaxData is not 12")
	}
	if impl.RecvDone != 0 || impl.RecvOver != 1 || impl.RecvFinal != 2 || impl.RecvConflict != 3 || impl.RecvInvalid != 4 {
		t.Error("a code differs")
	}
}

func TestRecvNew(t *testing.T) {
	for limit := range 31 {
		r := newRecv(t, limit)
		expectRecvValid(t, r, true)
		expectReady(t, r, 0)
		expectEnded(t, r, false)
		expectRead(t, r, 30, r, "")
	}
	for _, wrong := range noOffsets {
		if r, ok := impl.RecvNew(wrong); ok || !isZeroRecv(r) {
			t.Fatalf("RecvNew(%d) returned %v, %t", wrong, r, ok)
		}
	}
}

func TestRecvValidExamples(t *testing.T) {
	for _, r := range []impl.Recv{
		// The zero value is a stream of no bytes with a limit of 0.
		{}, recv(0, -1, 0), recv(0, -1, 30), recv(0, 0, 30), recv(0, 30, 30), recv(30, -1, 30), recv(30, 30, 30), recv(5, 5, 5), recv(5, 5, 30),
		// A piece at Read, behind a gap, and ending at Limit or at Final.
		recv(5, -1, 20, piece(5, "a")), recv(5, -1, 20, piece(6, "a")), recv(5, -1, 20, piece(19, "a")), recv(5, -1, 20, piece(5, letters(5, 20))),
		recv(5, 15, 20, piece(14, "a")), recv(5, 15, 20, piece(5, letters(5, 15))), recv(0, 30, 30, piece(0, letters(0, 30))), recv(29, 30, 30, piece(29, "a")),
		// Two and more pieces, with gaps of one byte and more.
		recv(5, -1, 20, piece(5, "ab"), piece(8, "c")), recv(5, 20, 20, piece(7, "ab"), piece(10, "c"), piece(12, "d"), piece(19, "e")),
		drawn("-b-d-f-h-j-l-n-p-r-t-v-x-z-B-D", 30, 30), drawn("a-c-e-g-i-k-m-o-q-s-u-w-y-A-C-", 29, 30),
		// Pieces have any bytes.
		recv(0, -1, 30, piece(0, "\x00"), piece(2, "\xff\x00")),
	} {
		if !expectedRecvValid(r) {
			t.Fatalf("%v is invalid", r)
		}
		expectRecvValid(t, r, true)
	}
	for _, r := range invalidRecvs() {
		if expectedRecvValid(r) {
			t.Fatalf("%v is valid", r)
		}
		expectRecvValid(t, r, false)
	}
}

func TestRecvValidSamples(t *testing.T) {
	counts := map[int]int{}
	forRecvs(func(r impl.Recv) {
		if !expectedRecvValid(r) {
			t.Fatalf("%v is invalid", r)
		}
		expectRecvValid(t, r, true)
		counts[min(len(r.Pieces), 3)]++
	})
	for n := range 4 {
		if counts[n] < 100 {
			t.Errorf("only %d samples with %d pieces", counts[n], n)
		}
	}
}

func TestRecvValidAllNumbers(t *testing.T) {
	for limit := -3; limit <= 33; limit++ {
		for read := -3; read <= 33; read++ {
			for final := -3; final <= 33; final++ {
				for _, r := range []impl.Recv{
					recv(read, final, limit), recv(read, final, limit, piece(7, "a")), recv(read, final, limit, piece(0, letters(0, 12)), piece(13, "a")),
					recv(read, final, limit, piece(read, "a")), recv(read, final, limit, piece(final-1, "a")), recv(read, final, limit, piece(limit-1, "a")),
				} {
					expectRecvValid(t, r, expectedRecvValid(r))
				}
			}
		}
	}
}

func TestRecvValidAllPieces(t *testing.T) {
	for _, r := range []impl.Recv{recv(0, -1, 5), recv(1, -1, 4), recv(1, 4, 5), recv(2, 5, 5), recv(4, 4, 4), recv(3, -1, 30)} {
		for first := -1; first <= 6; first++ {
			for size := range 5 {
				one := piece(first, letters(0, size))
				r.Pieces = []impl.Piece{one}
				expectRecvValid(t, r, expectedRecvValid(r))
				for second := -1; second <= 6; second++ {
					for size := range 5 {
						two := piece(second, letters(0, size))
						r.Pieces = []impl.Piece{one, two}
						expectRecvValid(t, r, expectedRecvValid(r))
						for third := -1; third <= 6; third++ {
							r.Pieces = []impl.Piece{one, two, piece(third, "a")}
							expectRecvValid(t, r, expectedRecvValid(r))
						}
					}
				}
			}
		}
	}
}

// partsOf cuts a text where cut is true for the offset, and returns the parts
// as calls, of which the last one ends the stream.
func partsOf(text string, cut func(n int) bool) []putCall {
	list, start := []putCall{}, 0
	for n := 1; n < len(text); n++ {
		if cut(n) || n-start == 12 {
			list = append(list, putCall{offset: start, data: text[start:n]})
			start = n
		}
	}
	return append(list, putCall{offset: start, data: text[start:], fin: true})
}

// withLoneEnd returns calls in which the last one of list has no longer the
// end, and a further one has nothing else.
func withLoneEnd(list []putCall) []putCall {
	next, last := slices.Clone(list), len(list)-1
	next[last].fin = false
	return append(next, putCall{offset: list[last].end(), fin: true})
}

// forOrders calls check for all orders of a list.
func forOrders(list []putCall, check func(list []putCall)) {
	var choose func(n int)
	choose = func(n int) {
		if n == len(list) {
			check(list)
			return
		}
		for i := n; i < len(list); i++ {
			list[n], list[i] = list[i], list[n]
			choose(n + 1)
			list[n], list[i] = list[i], list[n]
		}
	}
	choose(0)
}

// receivedAll returns a stream after calls, all of which must return RecvDone.
func receivedAll(t *testing.T, r impl.Recv, calls []putCall) impl.Recv {
	t.Helper()
	for _, c := range calls {
		r = put(t, c.on(r))
	}
	return r
}

// expectText checks that a stream is read to its end with this text.
func expectText(t *testing.T, r impl.Recv, text string) {
	t.Helper()
	expectReady(t, r, len(text))
	expectRead(t, r, 30, recv(len(text), len(text), r.Limit), text)
	rest, _ := impl.RecvRead(r, 30)
	expectEnded(t, rest, true)
	expectEnded(t, r, text == "")
}

func TestPromise113AllOrders(t *testing.T) {
	for size := range 7 {
		text := letters(0, size)
		for bits := range 1 << max(size-1, 0) {
			list := partsOf(text, func(n int) bool { return bits>>(n-1)&1 == 1 })
			for _, limit := range []int{size, 30} {
				check := func(list []putCall) { expectText(t, receivedAll(t, newRecv(t, limit), list), text) }
				forOrders(list, check)
				if len(list) < 6 {
					forOrders(withLoneEnd(list), check)
				}
			}
		}
	}
}

func TestPromise113LongTexts(t *testing.T) {
	source := rand.New(rand.NewSource(113))
	for range 300 {
		for size := range 31 {
			text, often := randomBytes(source, size), 1+source.Intn(8)
			list := partsOf(text, func(n int) bool { return source.Intn(often) == 0 })
			if source.Intn(2) == 0 {
				list = withLoneEnd(list)
			}
			// Some come twice.
			for range source.Intn(4) {
				list = append(list, list[source.Intn(len(list))])
			}
			source.Shuffle(len(list), func(i, j int) { list[i], list[j] = list[j], list[i] })
			expectText(t, receivedAll(t, newRecv(t, 30), list), text)
			expectText(t, receivedAll(t, newRecv(t, size), list), text)
		}
	}
}

// The text is the same if it is read bit by bit while the parts come, which
// may overlap, and the limit grows.
func TestPromise113ReadInBetween(t *testing.T) {
	source := rand.New(rand.NewSource(1130))
	for range 3000 {
		text, got := randomBytes(source, source.Intn(31)), ""
		r := newRecv(t, source.Intn(31))
		for step := 0; !impl.RecvEnded(r); step++ {
			if step == 5000 {
				t.Fatalf("%q is not read, but %v", text, r)
			}
			low := source.Intn(len(text) + 1)
			high := min(low+source.Intn(13), len(text))
			fin := high == len(text) && source.Intn(2) == 0
			next, code := impl.RecvPut(r, low, text[low:high], fin)
			if code != impl.RecvDone && (code != impl.RecvOver || high <= r.Limit) {
				t.Fatalf("RecvPut(%v, %d, %q, %t) returned %d", r, low, text[low:high], fin, code)
			}
			next, read := impl.RecvRead(next, source.Intn(4))
			got += read
			if !strings.HasPrefix(text, got) || next.Read != len(got) {
				t.Fatalf("%q was read of %q", got, text)
			}
			r, _ = impl.RecvGrant(next, min(next.Limit+source.Intn(2), 30))
		}
		if got != text {
			t.Fatalf("%q was read of %q", got, text)
		}
	}
}

func TestPromise113Examples(t *testing.T) {
	r := newRecv(t, 20)
	expectText(t, put(t, putCall{r, 0, "", true}), "")
	expectText(t, put(t, putCall{r, 0, "abc", true}), "abc")
	back := put(t, putCall{put(t, putCall{r, 3, "def", true}), 0, "abc", false})
	expectPut(t, putCall{put(t, putCall{r, 3, "def", true}), 0, "abc", false}, recv(0, 6, 20, piece(0, "abcdef")), 0)
	expectText(t, back, "abcdef")
	// Without a part in the middle, only what is before it is read.
	gap := put(t, putCall{put(t, putCall{r, 0, "ab", false}), 4, "ef", true})
	expectRead(t, gap, 30, recv(2, 6, 20, piece(4, "ef")), "ab")
	expectEnded(t, recv(2, 6, 20, piece(4, "ef")), false)
	// Without the end, the stream does not end.
	open := put(t, putCall{r, 0, "abc", false})
	expectRead(t, open, 30, recv(3, -1, 20), "abc")
	expectEnded(t, recv(3, -1, 20), false)
}

func TestPromise114SameAgain(t *testing.T) {
	forDonePuts(t, func(c putCall, next impl.Recv) {
		expectPut(t, c.on(next), next, 0)
	})
}

// The result depends on the arguments alone, not on the calls before.
func TestPromise114SameArguments(t *testing.T) {
	forPuts(func(c putCall) {
		want, code := impl.RecvPut(c.r, c.offset, c.data, c.fin)
		impl.RecvPut(want, c.offset, c.data, !c.fin)
		impl.RecvRead(want, 30)
		impl.RecvGrant(c.r, 30)
		expectPut(t, c, want, code)
	})
}

func TestPromise115Unchanged(t *testing.T) {
	counts := map[int]int{}
	forAllPuts(func(c putCall) {
		next, code := impl.RecvPut(c.r, c.offset, c.data, c.fin)
		if code != 0 && !sameRecv(next, c.r) {
			t.Fatalf("RecvPut%v returned %v, %d", c, next, code)
		}
		counts[code]++
	})
	for code := range 4 {
		if counts[code] < 5000 {
			t.Errorf("code %d is returned only %d times", code, counts[code])
		}
	}
	if len(counts) != 4 {
		t.Errorf("the codes are %v", counts)
	}
}

func TestPromise115All(t *testing.T) {
	forAllPuts(func(c putCall) {
		want, code := expectedPut(c)
		expectPut(t, c, want, code)
	})
}

// The first code that applies is returned, whichever apply as well.
func TestPromise115SeveralCodes(t *testing.T) {
	counts := map[string]int{}
	forAllPuts(func(c putCall) {
		codes, name := expectedCodes(c), ""
		for _, code := range codes {
			name += string([]byte{byte('0' + code)})
		}
		if len(codes) > 0 {
			expectPut(t, c, c.r, codes[0])
		}
		counts[name]++
	})
	for _, name := range []string{"", "1", "2", "3", "12", "13", "23", "123"} {
		if counts[name] < 1000 {
			t.Errorf("only %d calls to which the codes %q apply", counts[name], name)
		}
	}
}

// expectDrawn checks that a call returns RecvDone and the stream of a drawing.
func expectDrawn(t *testing.T, r impl.Recv, offset int, data string, drawing string) {
	t.Helper()
	expectPut(t, putCall{r, offset, data, false}, drawn(drawing, r.Final, r.Limit), 0)
}

// expectCode checks that a call returns a code and leaves the stream as it is.
func expectCode(t *testing.T, r impl.Recv, offset int, data string, fin bool, code int) {
	t.Helper()
	expectPut(t, putCall{r, offset, data, fin}, r, code)
}

func TestPromise116Limit(t *testing.T) {
	over, within := 0, 0
	forAllPuts(func(c putCall) {
		_, code := impl.RecvPut(c.r, c.offset, c.data, c.fin)
		if (code == impl.RecvOver) != (c.end() > c.r.Limit) {
			t.Fatalf("RecvPut%v returned %d", c, code)
		}
		if code == impl.RecvOver {
			over++
		} else if c.end() == c.r.Limit {
			within++
		}
	})
	if over < 1000 || within < 1000 {
		t.Errorf("only %d parts exceed the limit, and %d reach it", over, within)
	}
}

func TestPromise116AllEnds(t *testing.T) {
	for limit := range 31 {
		r := newRecv(t, limit)
		for offset := range 31 {
			for size := range 13 {
				data := letters(offset, offset+size)
				if offset+size > limit {
					expectCode(t, r, offset, data, false, impl.RecvOver)
					expectCode(t, r, offset, data, true, impl.RecvOver)
					continue
				}
				want := recv(0, -1, limit)
				if size > 0 {
					want.Pieces = []impl.Piece{piece(offset, data)}
				}
				expectPut(t, putCall{r, offset, data, false}, want, 0)
				want.Final = offset + size
				expectPut(t, putCall{r, offset, data, true}, want, 0)
			}
		}
	}
}

func TestPromise116Examples(t *testing.T) {
	r := drawn("...--fg--jk", -1, 20)
	expectPut(t, putCall{r, 18, "st", false}, recv(3, -1, 20, piece(5, "fg"), piece(9, "jk"), piece(18, "st")), 0)
	expectPut(t, putCall{r, 18, "st", true}, recv(3, 20, 20, piece(5, "fg"), piece(9, "jk"), piece(18, "st")), 0)
	for _, fin := range []bool{false, true} {
		expectCode(t, r, 18, "stu", fin, impl.RecvOver)
		expectCode(t, r, 20, "u", fin, impl.RecvOver)
		expectCode(t, r, 21, "", fin, impl.RecvOver)
		expectCode(t, r, 30, "", fin, impl.RecvOver)
		expectCode(t, r, 30, "abcdefghijkl", fin, impl.RecvOver)
		expectCode(t, recv(0, -1, 0), 0, "a", fin, impl.RecvOver)
		expectCode(t, recv(0, -1, 0), 1, "", fin, impl.RecvOver)
		expectCode(t, recv(0, -1, 30), 19, "stuvwxyzABCD", fin, impl.RecvOver)
		expectCode(t, recv(0, -1, 30), 30, "x", fin, impl.RecvOver)
		expectCode(t, recv(20, 20, 20), 20, "u", fin, impl.RecvOver)
	}
	// It also contradicts the final size, a byte that waits, and both.
	expectCode(t, drawn("...--fg--jk", 11, 20), 18, "stu", false, impl.RecvOver)
	expectCode(t, drawn("...--fg--jk", 11, 20), 18, "stu", true, impl.RecvOver)
	expectCode(t, drawn("...--fg--jk", -1, 20), 9, "xklmnopqrstu", false, impl.RecvOver)
	expectCode(t, drawn("...--fg--jk", 11, 20), 9, "xklmnopqrstu", false, impl.RecvOver)
	expectCode(t, drawn("...--fg--jk", 11, 20), 10, "xlmnopqrstu", true, impl.RecvOver)
}

func TestPromise117Final(t *testing.T) {
	counts := map[string]int{}
	forDonePuts(t, func(c putCall, next impl.Recv) {
		switch {
		case c.r.Final != -1 && next.Final != c.r.Final, c.fin && next.Final != c.end(), !c.fin && next.Final != c.r.Final:
			t.Fatalf("RecvPut%v returned %v", c, next)
		case c.r.Final == -1 && c.fin:
			counts["set"]++
		case c.r.Final == -1:
			counts["unknown"]++
		case c.fin:
			counts["same"]++
		default:
			counts["kept"]++
		}
	})
	for _, name := range []string{"set", "unknown", "same", "kept"} {
		if counts[name] < 1000 {
			t.Errorf("only %d final sizes are %s", counts[name], name)
		}
	}
}

func TestPromise117UnknownFinal(t *testing.T) {
	r := drawn("...--fg--jk", -1, 20)
	// The end is exactly that of what was received, or behind it.
	for _, c := range []putCall{
		{r, 11, "", true}, {r, 10, "k", true}, {r, 9, "jk", true}, {r, 4, "efghijk", true}, {r, 1, "xxdefghijk", true},
		{r, 12, "", true}, {r, 20, "", true}, {r, 11, "l", true}, {r, 12, "m", true}, {r, 19, "t", true},
	} {
		if next := put(t, c); next.Final != c.end() {
			t.Fatalf("RecvPut%v returned %v", c, next)
		}
	}
	// A byte at the end or behind it was received.
	for end := range 11 {
		expectCode(t, r, end, "", true, impl.RecvFinal)
		for size := 1; size <= end; size++ {
			expectCode(t, r, end-size, letters(0, size), true, impl.RecvFinal)
		}
	}
	expectCode(t, recv(0, -1, 20, piece(5, "f")), 5, "", true, impl.RecvFinal)
	expectPut(t, putCall{recv(0, -1, 20, piece(5, "f")), 6, "", true}, recv(0, 6, 20, piece(5, "f")), 0)
	// A byte at the end or behind it was read, but none waits.
	for read := range 31 {
		for end := range read {
			expectCode(t, recv(read, -1, 30), end, "", true, impl.RecvFinal)
			expectCode(t, recv(read, -1, 30), max(end-5, 0), strings.Repeat("x", min(end, 5)), true, impl.RecvFinal)
		}
		expectPut(t, putCall{recv(read, -1, 30), read, "", true}, recv(read, read, 30), 0)
		expectPut(t, putCall{recv(read, -1, 30), max(read-5, 0), strings.Repeat("x", min(read, 5)), true}, recv(read, read, 30), 0)
		expectPut(t, putCall{recv(read, -1, 30), 30, "", true}, recv(read, 30, 30), 0)
	}
}

func TestPromise117KnownFinal(t *testing.T) {
	r := drawn("...--fg--jk", 13, 20)
	for end := range 21 {
		// The end of the known Final, or another one.
		code := map[bool]int{false: impl.RecvFinal, true: impl.RecvDone}
		expectCode(t, r, end, "", true, code[end == 13])
		expectCode(t, recv(3, 13, 20), end, "", true, code[end == 13])
		expectCode(t, recv(13, 13, 20), end, "", true, code[end == 13])
		// No end, and up to the known Final, or behind it, also without a byte.
		expectCode(t, r, end, "", false, code[end <= 13])
		expectCode(t, recv(13, 13, 20), end, "", false, code[end <= 13])
	}
	expectDrawn(t, r, 11, "lm", "...--fg--jklm")
	expectDrawn(t, r, 12, "m", "...--fg--jk-m")
	expectPut(t, putCall{r, 12, "m", true}, drawn("...--fg--jk-m", 13, 20), 0)
	expectCode(t, r, 11, "lmn", false, impl.RecvFinal)
	expectCode(t, r, 13, "n", false, impl.RecvFinal)
	expectCode(t, r, 11, "lmn", true, impl.RecvFinal)
	expectCode(t, r, 11, "l", true, impl.RecvFinal)
	// Final is the limit, Read, and the end of what was received.
	expectCode(t, drawn("...--fg--jk", 20, 20), 20, "", true, impl.RecvDone)
	expectCode(t, drawn("...--fg--jk", 20, 20), 19, "", true, impl.RecvFinal)
	expectCode(t, recv(3, 3, 20), 3, "d", false, impl.RecvFinal)
	expectCode(t, recv(3, 3, 20), 0, "abcd", false, impl.RecvFinal)
	expectCode(t, recv(3, 3, 20), 1, "xx", true, impl.RecvDone)
	expectCode(t, recv(0, 0, 20), 0, "", true, impl.RecvDone)
	expectCode(t, recv(0, 0, 20), 0, "a", false, impl.RecvFinal)
	expectCode(t, drawn("...--fg--jk", 11, 20), 11, "l", false, impl.RecvFinal)
	expectCode(t, drawn("...--fg--jk", 11, 20), 10, "k", true, impl.RecvDone)
	// A byte differs as well.
	expectCode(t, r, 10, "xlmn", false, impl.RecvFinal)
	expectCode(t, r, 10, "xl", true, impl.RecvFinal)
	expectCode(t, r, 10, "xlm", true, impl.RecvConflict)
	expectCode(t, drawn("...--fg--jk", -1, 20), 9, "x", true, impl.RecvFinal)
	expectCode(t, drawn("...--fg--jk", -1, 20), 9, "xk", true, impl.RecvConflict)
}

func TestPromise118Examples(t *testing.T) {
	r := drawn("...--fg--jk", -1, 20)
	// It touches a piece, or is one offset away from it.
	expectDrawn(t, r, 3, "d", "...d-fg--jk")
	expectDrawn(t, r, 4, "e", "...-efg--jk")
	expectDrawn(t, r, 7, "h", "...--fgh-jk")
	expectDrawn(t, r, 8, "i", "...--fg-ijk")
	expectDrawn(t, r, 11, "l", "...--fg--jkl")
	expectDrawn(t, r, 12, "m", "...--fg--jk-m")
	// It fills a gap exactly, joins two pieces, and three.
	expectDrawn(t, r, 3, "de", "...defg--jk")
	expectDrawn(t, r, 7, "hi", "...--fghijk")
	expectDrawn(t, r, 6, "ghij", "...--fghijk")
	expectDrawn(t, r, 4, "efghijkl", "...-efghijkl")
	expectDrawn(t, drawn("a-c-e-g", 7, 20), 1, "bcdef", "abcdefg")
	expectDrawn(t, drawn("a-c-e-g", -1, 20), 3, "d", "a-cde-g")
	// It overlaps, covers, or is covered by a piece, or repeats what waits.
	expectDrawn(t, r, 4, "ef", "...-efg--jk")
	expectDrawn(t, r, 6, "gh", "...--fgh-jk")
	expectDrawn(t, r, 4, "efgh", "...-efgh-jk")
	expectDrawn(t, r, 3, "defghijklmno", "...defghijklmno")
	expectDrawn(t, r, 5, "f", "...--fg--jk")
	expectDrawn(t, r, 6, "g", "...--fg--jk")
	expectDrawn(t, r, 9, "jk", "...--fg--jk")
	expectDrawn(t, drawn("...defg", 7, 20), 4, "ef", "...defg")
	// It has no byte: at Read, in a gap, next to and in a piece, and at Limit.
	for _, offset := range []int{0, 2, 3, 4, 5, 6, 7, 8, 9, 11, 12, 19, 20} {
		expectDrawn(t, r, offset, "", "...--fg--jk")
		expectDrawn(t, drawn("...", -1, 20), offset, "", "...")
	}
	// The largest data, at both ends of the offsets.
	expectDrawn(t, recv(0, -1, 30), 0, "abcdefghijkl", "abcdefghijkl")
	expectDrawn(t, recv(0, -1, 30), 18, "stuvwxyzABCD", "------------------stuvwxyzABCD")
	expectDrawn(t, recv(0, -1, 30), 29, "D", "-----------------------------D")
	expectDrawn(t, recv(0, -1, 30), 30, "", "")
	expectDrawn(t, recv(0, -1, 0), 0, "", "")
}

// What was read already counts no more, whatever it is now.
func TestPromise118ReadAlready(t *testing.T) {
	r := drawn("...--fg--jk", -1, 20)
	for _, data := range []string{"", "a", "ab", "abc", "x", "xx", "xxx", "\x00\xff"} {
		// Wholly, from the start on and up to Read.
		expectDrawn(t, r, 0, data, "...--fg--jk")
		expectDrawn(t, r, 3-len(data), data, "...--fg--jk")
	}
	// In part, at its beginning.
	for _, before := range []string{"c", "bc", "abc", "x", "xx", "xxx", "\x00\xff\x00"} {
		expectDrawn(t, r, 3-len(before), before+"d", "...d-fg--jk")
		expectDrawn(t, r, 3-len(before), before+"de", "...defg--jk")
		expectDrawn(t, r, 3-len(before), before+"defghijk", "...defghijk")
		expectDrawn(t, drawn("...d", -1, 20), 3-len(before), before+"d", "...d")
		expectDrawn(t, drawn("...d", -1, 20), 3-len(before), before+"de", "...de")
		expectCode(t, drawn("...d", -1, 20), 3-len(before), before+"e", false, impl.RecvConflict)
	}
	whole := recv(30, 30, 30)
	for offset := 18; offset <= 30; offset++ {
		expectDrawn(t, whole, offset, strings.Repeat("x", 30-offset), strings.Repeat(".", 30))
		expectPut(t, putCall{whole, offset, strings.Repeat("x", 30-offset), true}, whole, 0)
	}
}

func TestPromise118Bytes(t *testing.T) {
	forDonePuts(t, func(c putCall, next impl.Recv) {
		before, after := cellsOf(c.r), cellsOf(next)
		for n := range 31 {
			within := c.offset <= n && n < c.end()
			if wasReceived(next, n) != (wasReceived(c.r, n) || within) {
				t.Fatalf("RecvPut%v returned %v", c, next)
			}
			want := before[n]
			if within && n >= c.r.Read {
				want = int(c.data[n-c.offset]) + 1
			}
			if after[n] != want {
				t.Fatalf("RecvPut%v returned %v", c, next)
			}
		}
		if next.Read != c.r.Read || next.Limit != c.r.Limit {
			t.Fatalf("RecvPut%v returned %v", c, next)
		}
	})
}

// Neighbours stay one piece, and pieces do not touch.
func TestPromise118ValidStreams(t *testing.T) {
	counts := map[int]int{}
	forDonePuts(t, func(c putCall, next impl.Recv) {
		if !expectedRecvValid(next) {
			t.Fatalf("RecvPut%v returned %v, which is invalid", c, next)
		}
		expectRecvValid(t, next, true)
		counts[max(len(next.Pieces)-len(c.r.Pieces), -3)]++
	})
	for more := -3; more <= 1; more++ {
		if counts[more] < 100 {
			t.Errorf("%d pieces more only %d times", more, counts[more])
		}
	}
}

func TestPromise118AllBytes(t *testing.T) {
	for n := range 256 {
		data := string([]byte{byte(n), byte(255 - n), byte(n)})
		r := recv(0, -1, 30, piece(5, data))
		expectPut(t, putCall{recv(0, -1, 30), 5, data, false}, r, 0)
		expectPut(t, putCall{r, 5, data, false}, r, 0)
		expectPut(t, putCall{r, 4, "\x00" + data + "\xff", false}, recv(0, -1, 30, piece(4, "\x00"+data+"\xff")), 0)
	}
}

// forPairsOfPuts calls check for pairs of calls, each of which has a byte or
// ends the stream: all of small streams, and some of sample streams.
func forPairsOfPuts(check func(first putCall, second putCall)) {
	isPart := func(c putCall) bool { return c.data != "" || c.fin }
	for limit := range 3 {
		forSmallPuts(limit, func(first putCall) {
			for _, data := range smallParts(limit + 1) {
				for offset := 0; offset+len(data) <= limit+1 && isPart(first); offset++ {
					check(first, putCall{first.r, offset, data, true})
					if data != "" {
						check(first, putCall{first.r, offset, data, false})
					}
				}
			}
		})
	}
	source := rand.New(rand.NewSource(119))
	for _, r := range sampleRecvs() {
		calls := slices.DeleteFunc(sampleCalls(source, r, 12), func(c putCall) bool { return !isPart(c) })
		for _, first := range calls {
			for _, second := range calls {
				check(first, second)
			}
		}
	}
}

func TestPromise119OtherOrder(t *testing.T) {
	both, differ := 0, 0
	forPairsOfPuts(func(first putCall, second putCall) {
		a, one := impl.RecvPut(first.r, first.offset, first.data, first.fin)
		if one != impl.RecvDone {
			return
		}
		want, two := impl.RecvPut(a, second.offset, second.data, second.fin)
		if two != impl.RecvDone {
			differ++
			return
		}
		both++
		expectPut(t, first.on(put(t, second)), want, 0)
	})
	if both < 50000 || differ < 50000 {
		t.Errorf("only %d pairs are received, and %d are not", both, differ)
	}
}

// An empty part that does not end the stream is the exception.
func TestPromise119EmptyPart(t *testing.T) {
	r := recv(3, -1, 20)
	expectPut(t, putCall{put(t, putCall{r, 9, "", false}), 5, "", true}, recv(3, 5, 20), 0)
	expectCode(t, put(t, putCall{r, 5, "", true}), 9, "", false, impl.RecvFinal)
}

func TestPromise120Conflict(t *testing.T) {
	source, count := rand.New(rand.NewSource(120)), 0
	forDonePuts(t, func(c putCall, next impl.Recv) {
		for n := max(c.offset, c.r.Read); n < c.end(); n++ {
			count++
			other := c.data[n-c.offset] + byte(1+source.Intn(255))
			expectCode(t, next, n, string([]byte{other}), false, impl.RecvConflict)
		}
	})
	if count < 50000 {
		t.Errorf("only %d bytes wait", count)
	}
}

func TestPromise120EveryByte(t *testing.T) {
	r := recv(2, -1, 30, piece(2, "\x00"), piece(4, "\x7f"), piece(6, "\x80"), piece(8, "\xff"), piece(10, "."))
	for _, p := range r.Pieces {
		for n := range 256 {
			data := string([]byte{byte(n)})
			if data == p.Data {
				expectCode(t, r, p.Offset, data, false, impl.RecvDone)
			} else {
				expectCode(t, r, p.Offset, data, false, impl.RecvConflict)
				expectCode(t, r, p.Offset-1, "?"+data, false, impl.RecvConflict)
				expectCode(t, r, p.Offset, data+"?", false, impl.RecvConflict)
			}
		}
	}
}

// The differing byte is each one of an overlap with a piece at each place.
func TestPromise120EachPlace(t *testing.T) {
	text := letters(0, 30)
	for read := range 4 {
		for low := read; low < 24; low += 3 {
			for size := 1; size <= 9; size += 2 {
				high := min(low+size, 30)
				r := recv(read, -1, 30, piece(low, text[low:high]))
				for offset := max(low-6, 0); offset < high; offset++ {
					for end := offset + 1; end <= min(offset+12, 30); end++ {
						for i := range end - offset {
							data, code := withOtherByte(text[offset:end], i), impl.RecvDone
							if n := offset + i; low <= n && n < high {
								code = impl.RecvConflict
							}
							want, expected := expectedPut(putCall{r, offset, data, false})
							if expected != code {
								t.Fatalf("code %d is expected of %v", expected, r)
							}
							expectPut(t, putCall{r, offset, data, false}, want, code)
						}
					}
				}
			}
		}
	}
}

func TestPromise120Examples(t *testing.T) {
	r := drawn("...--fgh-jk", -1, 20)
	for _, data := range []string{"xgh", "fxh", "fgx", "x", "xx", "xxx", "fx", "xg", "fghix", "fghixk", "fghijx", "Fgh"} {
		expectCode(t, r, 5, data, false, impl.RecvConflict)
		expectCode(t, r, 3, "de"+data, false, impl.RecvConflict)
		expectCode(t, r, 1, "xxde"+data, false, impl.RecvConflict)
	}
	// It differs only where nothing waits.
	expectDrawn(t, r, 2, "xxxfghxjkx", "...xxfghxjkx")
	// A conflict ends with what was read.
	next, text := impl.RecvRead(drawn("...defgh-jk", -1, 20), 2)
	if text != "de" {
		t.Fatalf("%q was read", text)
	}
	expectDrawn(t, next, 3, "xxfgh", ".....fgh-jk")
	expectCode(t, next, 3, "xxxgh", false, impl.RecvConflict)
}

func TestPromise121ReadTwice(t *testing.T) {
	forRecvs(func(r impl.Recv) {
		for sum := range 31 {
			want, text := impl.RecvRead(r, sum)
			for a := 0; a <= sum; a++ {
				next, first := impl.RecvRead(r, a)
				after, second := impl.RecvRead(next, sum-a)
				if first+second != text || !sameRecv(after, want) {
					t.Fatalf("RecvRead(%v) of %d and %d returned %q, %q and %v", r, a, sum-a, first, second, after)
				}
			}
		}
	})
}

func TestPromise122Read(t *testing.T) {
	counts := map[string]int{}
	forRecvs(func(r impl.Recv) {
		ready := impl.RecvReady(r)
		expectReady(t, r, expectedReady(r))
		for n := range 31 {
			next, text := impl.RecvRead(r, n)
			if len(text) != min(n, ready) || next.Read != r.Read+len(text) {
				t.Fatalf("RecvRead(%v, %d) returned %v, %q", r, n, next, text)
			}
			want, expected := expectedRead(r, n)
			expectRead(t, r, n, want, expected)
			expectRecvValid(t, next, true)
			expectReady(t, next, ready-len(text))
			switch {
			case n == 0 || ready == 0:
				counts["none"]++
			case n < ready:
				counts["fewer"]++
			case n == ready:
				counts["all"]++
			default:
				counts["more"]++
			}
			if next.Read == r.Final {
				counts["up to Final"]++
			} else if n > ready && len(next.Pieces) > 0 {
				counts["up to a gap"]++
			}
		}
	})
	for _, name := range []string{"none", "fewer", "all", "more", "up to Final", "up to a gap"} {
		if counts[name] < 500 {
			t.Errorf("only %d reads of: %s", counts[name], name)
		}
	}
}

func TestPromise122Examples(t *testing.T) {
	r := drawn("...def--ij", 10, 20)
	expectReady(t, r, 3)
	expectRead(t, r, 0, r, "")
	expectRead(t, r, 1, drawn("....ef--ij", 10, 20), "d")
	expectRead(t, r, 2, drawn(".....f--ij", 10, 20), "de")
	for n := 3; n <= 30; n++ {
		expectRead(t, r, n, drawn("......--ij", 10, 20), "def")
		// The first piece is behind a gap, or there is none.
		expectRead(t, drawn("...--f", -1, 20), n, drawn("...--f", -1, 20), "")
		expectRead(t, recv(3, -1, 20), n, recv(3, -1, 20), "")
		expectRead(t, recv(3, 3, 20), n, recv(3, 3, 20), "")
		expectRead(t, recv(30, -1, 30), n, recv(30, -1, 30), "")
	}
	expectReady(t, drawn("...--f", -1, 20), 0)
	expectReady(t, recv(3, 20, 20), 0)
	expectReady(t, impl.Recv{}, 0)
	// More than a frame can carry, up to Final and to Limit.
	long := recv(0, 30, 30, piece(0, letters(0, 30)))
	expectReady(t, long, 30)
	expectRead(t, long, 30, recv(30, 30, 30), letters(0, 30))
	expectRead(t, long, 29, recv(29, 30, 30, piece(29, letters(29, 30))), letters(0, 29))
	expectRead(t, recv(29, -1, 30, piece(29, "a")), 1, recv(30, -1, 30), "a")
	// Bytes are read as they are.
	expectRead(t, recv(0, -1, 30, piece(0, "\x00\xff\xc3\x28\n")), 4, recv(4, -1, 30, piece(4, "\n")), "\x00\xff\xc3\x28")
}

func TestPromise122Invalid(t *testing.T) {
	for _, r := range invalidRecvs() {
		expectReady(t, r, -1)
		for _, n := range append([]int{0, 1, 12, 29, 30}, noOffsets...) {
			expectRead(t, r, n, impl.Recv{}, "")
		}
	}
	for _, r := range append(sampleRecvs(), impl.Recv{}, drawn("...def--ij", 10, 20), recv(0, 30, 30, piece(0, letters(0, 30)))) {
		for _, n := range noOffsets {
			expectRead(t, r, n, impl.Recv{}, "")
		}
	}
}

func TestPromise123Ended(t *testing.T) {
	ended, open := 0, 0
	forRecvs(func(r impl.Recv) {
		expectEnded(t, r, r.Read == r.Final)
		if impl.RecvEnded(r) {
			ended++
			expectReady(t, r, 0)
		} else {
			open++
		}
	})
	if ended < 100 || open < 100 {
		t.Errorf("only %d streams have ended, and %d are open", ended, open)
	}
}

func TestPromise123AllSizes(t *testing.T) {
	for limit := range 31 {
		for read := 0; read <= limit; read++ {
			expectEnded(t, recv(read, -1, limit), false)
			for final := read; final <= limit; final++ {
				expectEnded(t, recv(read, final, limit), final == read)
			}
			for final := -1; final <= 30; final++ {
				if final < read && final != -1 || final > limit {
					expectEnded(t, recv(read, final, limit), false)
				}
			}
		}
	}
	// Everything was received, but not everything was read.
	expectEnded(t, drawn("...def", 6, 20), false)
	expectEnded(t, drawn(".....f", 6, 20), false)
	expectEnded(t, drawn("......", 6, 20), true)
	expectEnded(t, drawn("......", 7, 20), false)
}

func TestPromise123Invalid(t *testing.T) {
	for _, r := range invalidRecvs() {
		expectEnded(t, r, false)
	}
	expectEnded(t, recv(-1, -1, 20), false)
	expectEnded(t, recv(31, 31, 31), false)
	expectEnded(t, recv(21, 21, 20), false)
	expectEnded(t, recv(5, 5, 20, piece(5, "")), false)
	expectEnded(t, recv(5, 5, 20, piece(7, "a")), false)
}

func TestPromise124MoreReady(t *testing.T) {
	more, same := 0, 0
	forDonePuts(t, func(c putCall, next impl.Recv) {
		before, after := impl.RecvReady(c.r), impl.RecvReady(next)
		if after < before || after != expectedReady(next) {
			t.Fatalf("%d bytes of %v are ready, and %d of RecvPut%v", before, c.r, after, c)
		}
		if after > before {
			more++
		} else {
			same++
		}
	})
	if more < 1000 || same < 1000 {
		t.Errorf("only %d parts make more bytes ready, and %d do not", more, same)
	}
}

func TestPromise124Examples(t *testing.T) {
	r := drawn("...--fg--jk", -1, 20)
	for _, c := range []struct {
		offset int
		data   string
		want   int
	}{
		{3, "d", 1}, {4, "e", 0}, {3, "de", 4}, {3, "defgh", 5}, {3, "defghi", 8}, {2, "xdefghijklm", 10}, {7, "hi", 0}, {3, "", 0}, {1, "xx", 0},
	} {
		expectReady(t, put(t, putCall{r, c.offset, c.data, false}), c.want)
	}
}

func TestPromise125Grant(t *testing.T) {
	forRecvs(func(r impl.Recv) {
		for limit := range 31 {
			want := r
			want.Limit = max(limit, r.Limit)
			expectGrant(t, r, limit, want, limit >= r.Limit)
			expectRecvValid(t, want, true)
		}
	})
}

func TestPromise125Examples(t *testing.T) {
	r := drawn("...--fg--jk", 15, 20)
	expectGrant(t, r, 19, r, false)
	expectGrant(t, r, 20, r, true)
	expectGrant(t, r, 21, drawn("...--fg--jk", 15, 21), true)
	expectGrant(t, r, 30, drawn("...--fg--jk", 15, 30), true)
	expectGrant(t, r, 11, r, false)
	expectGrant(t, r, 0, r, false)
	expectGrant(t, recv(0, -1, 0), 0, recv(0, -1, 0), true)
	expectGrant(t, recv(0, -1, 0), 30, recv(0, -1, 30), true)
	expectGrant(t, recv(30, 30, 30), 30, recv(30, 30, 30), true)
	expectGrant(t, recv(30, 30, 30), 29, recv(30, 30, 30), false)
}

func TestPromise125Invalid(t *testing.T) {
	for _, r := range invalidRecvs() {
		for _, limit := range append([]int{0, 1, 5, 20, 29, 30, r.Limit}, noOffsets...) {
			expectGrant(t, r, limit, impl.Recv{}, false)
		}
	}
	for _, r := range append(sampleRecvs(), impl.Recv{}, recv(30, 30, 30)) {
		for _, limit := range noOffsets {
			expectGrant(t, r, limit, impl.Recv{}, false)
		}
	}
}

func TestPromise126OverBeforeGrant(t *testing.T) {
	counts := map[int]int{}
	forAllPuts(func(c putCall) {
		_, code := impl.RecvPut(c.r, c.offset, c.data, c.fin)
		if code != impl.RecvOver {
			return
		}
		granted, ok := impl.RecvGrant(c.r, 30)
		if !ok {
			t.Fatalf("RecvGrant(%v, 30) failed", c.r)
		}
		_, after := impl.RecvPut(granted, c.offset, c.data, c.fin)
		if (after == impl.RecvOver) != (c.end() > 30) {
			t.Fatalf("RecvPut%v returned %d with a limit of 30", c, after)
		}
		counts[after]++
	})
	for code := range 4 {
		if counts[code] < 300 {
			t.Errorf("only %d calls return %d with a limit of 30", counts[code], code)
		}
	}
}

func TestPromise126EachLimit(t *testing.T) {
	r := drawn("...--fg--jk", -1, 11)
	for end := 12; end <= 30; end++ {
		data := letters(0, min(end-11, 12))
		expectCode(t, r, end-len(data), data, false, impl.RecvOver)
		for limit := 12; limit <= 30; limit++ {
			granted, _ := impl.RecvGrant(r, limit)
			if _, code := impl.RecvPut(granted, end-len(data), data, true); (code == impl.RecvOver) != (end > limit) {
				t.Fatalf("RecvPut to %d with limit %d returned %d", end, limit, code)
			}
		}
	}
}

func TestPutInvalidStream(t *testing.T) {
	for _, r := range invalidRecvs() {
		for _, fin := range []bool{false, true} {
			for _, offset := range []int{0, 3, 5, 7, 20, 30, -1, 31} {
				for _, data := range []string{"", "a", "ab", "abcdefghijkl", "abcdefghijklm"} {
					expectNoPut(t, putCall{r, offset, data, fin})
				}
			}
		}
	}
}

// Invalid arguments are checked first, whichever codes apply to the others.
func TestPutInvalidOffsetOrData(t *testing.T) {
	for _, r := range append(sampleRecvs(), impl.Recv{}, drawn("...--fg--jk", 11, 20), recv(30, 30, 30)) {
		for _, fin := range []bool{false, true} {
			for _, wrong := range noOffsets {
				for _, data := range []string{"", "x", "abcdefghijkl"} {
					expectNoPut(t, putCall{r, wrong, data, fin})
				}
			}
			for _, data := range tooMuchData {
				for _, offset := range []int{0, 1, r.Read, 17, 18, 29, 30, -13, -1, 31} {
					expectNoPut(t, putCall{r, offset, data, fin})
				}
			}
		}
	}
}

// withSparePieces returns a stream whose Pieces have capacity that is not used.
func withSparePieces(r impl.Recv) impl.Recv {
	r.Pieces = append(make([]impl.Piece, 0, len(r.Pieces)+5), r.Pieces...)
	return r
}

// pieceMemory returns all memory of a stream, with its spare capacity.
func pieceMemory(r impl.Recv) []impl.Piece {
	return r.Pieces[:cap(r.Pieces)]
}

// overwritePieces changes all memory of a stream, with its spare capacity.
func overwritePieces(r impl.Recv) {
	for i := range pieceMemory(r) {
		pieceMemory(r)[i] = piece(-7, "overwritten")
	}
}

// recvCalls calls all functions of the chapter and returns the streams that
// they return.
func recvCalls(r impl.Recv, calls []putCall) []impl.Recv {
	fresh, _ := impl.RecvNew(30)
	results := []impl.Recv{fresh}
	impl.RecvValid(r)
	impl.RecvReady(r)
	impl.RecvEnded(r)
	for _, c := range calls {
		next, _ := impl.RecvPut(r, c.offset, c.data, c.fin)
		results = append(results, next)
	}
	for _, n := range []int{-1, 0, 1, 2, 15, 29, 30, 31, r.Limit - 1, r.Limit, r.Limit + 1} {
		read, _ := impl.RecvRead(r, n)
		granted, _ := impl.RecvGrant(r, n)
		results = append(results, read, granted)
	}
	return results
}

func TestRecvArgumentsStayAsTheyAreAndResultsShareNoMemory(t *testing.T) {
	source := rand.New(rand.NewSource(31313))
	check := func(sample impl.Recv, calls []putCall) {
		r := withSparePieces(sample)
		memory := slices.Clone(pieceMemory(r))
		results, again := recvCalls(r, calls), recvCalls(r, calls)
		if !slices.Equal(pieceMemory(r), memory) {
			t.Fatalf("%v was changed to %v", memory, pieceMemory(r))
		}
		for i, result := range results {
			overwritePieces(result)
			for j := i + 1; j < len(results); j++ {
				if !sameRecv(results[j], again[j]) {
					t.Fatalf("results %d and %d of %v share memory", i, j, sample)
				}
			}
		}
		if !slices.Equal(pieceMemory(r), memory) {
			t.Fatalf("a result shares memory with %v", sample)
		}
	}
	for _, r := range sampleRecvs() {
		check(r, sampleCalls(source, r, 12))
	}
	for _, r := range invalidRecvs() {
		check(r, []putCall{{r, 5, "ab", false}, {r, 20, "", true}, {r, 31, "ab", false}})
	}
}

// The results of calls with a result as the argument share no memory with it, either.
func TestRecvResultsOfResultsShareNoMemory(t *testing.T) {
	forPuts(func(c putCall) {
		first, _ := impl.RecvPut(c.r, c.offset, c.data, c.fin)
		want := slices.Clone(first.Pieces)
		again, _ := impl.RecvPut(first, c.offset, c.data, c.fin)
		read, _ := impl.RecvRead(first, 1)
		granted, _ := impl.RecvGrant(first, 30)
		refused, _ := impl.RecvGrant(first, 0)
		for _, other := range []impl.Recv{again, read, granted, refused} {
			overwritePieces(other)
		}
		if !slices.Equal(first.Pieces, want) {
			t.Fatalf("results of %v share memory with it", want)
		}
	})
}

func TestRecvSpareCapacityCountsNothing(t *testing.T) {
	source := rand.New(rand.NewSource(313))
	for _, r := range append(sampleRecvs(), invalidRecvs()...) {
		spare := r
		spare.Pieces = append(slices.Clone(r.Pieces), piece(12, "ab"), piece(15, "c"), piece(28, "d"))[:len(r.Pieces)]
		calls := []putCall{{r, 12, "xy", true}, {r, 14, "", false}, {r, source.Intn(31), "abcdefghijkl", false}}
		if !slices.EqualFunc(recvCalls(spare, calls), recvCalls(r, calls), sameRecv) {
			t.Fatalf("the results of %v depend on its capacity", r)
		}
	}
}
