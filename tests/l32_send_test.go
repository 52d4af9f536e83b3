package tests

import (
	"math"
	"math/rand"
	"slices"
	"strings"
	"testing"

	"loop.example/multipathtransport/impl"
)

// noPartSizes are not sizes of a part.
var noPartSizes = append(outsideFrom(12), 0, 14, 30, 256+1, 1<<32+1, -12, -13, math.MinInt+1, math.MinInt+13)

// partCall is a call of PartSent, SendAck or SendLoss.
type partCall struct {
	s impl.Send
	p impl.Part
}

// on returns the same call for another stream.
func (c partCall) on(s impl.Send) partCall {
	return partCall{s, c.p}
}

func part(offset int, data string, fin bool) impl.Part {
	return impl.Part{Offset: offset, Data: data, Fin: fin}
}

// marked returns the positions with a mark in a drawing.
func marked(drawing string, mark byte) []impl.Range {
	list := []impl.Range{}
	for n := range len(drawing) {
		switch {
		case drawing[n] != mark:
		case n > 0 && drawing[n-1] == mark:
			list[len(list)-1].High = n
		default:
			list = append(list, impl.Range{Low: n, High: n})
		}
	}
	return list
}

// sender returns the stream of a drawing, which has a mark for each position
// before Next: a if it is acknowledged, l if it is lost, and a dot otherwise.
func sender(data string, finished bool, limit int, drawing string) impl.Send {
	return impl.Send{Data: data, Finished: finished, Limit: limit, Next: len(drawing), Acked: marked(drawing, 'a'), Lost: marked(drawing, 'l')}
}

// drawingOf returns the drawing of a valid stream.
func drawingOf(s impl.Send) string {
	drawing := []byte(strings.Repeat(".", s.Next))
	for mark, set := range map[byte][]impl.Range{'a': s.Acked, 'l': s.Lost} {
		for _, r := range set {
			for n := r.Low; n <= r.High; n++ {
				drawing[n] = mark
			}
		}
	}
	return string(drawing)
}

// redrawn returns a stream with the drawing of another one.
func redrawn(s impl.Send, drawing string) impl.Send {
	return sender(s.Data, s.Finished, s.Limit, drawing)
}

func sameSender(a impl.Send, b impl.Send) bool {
	return a.Data == b.Data && a.Finished == b.Finished && a.Limit == b.Limit && a.Next == b.Next &&
		slices.Equal(a.Acked, b.Acked) && slices.Equal(a.Lost, b.Lost)
}

func isZeroSender(s impl.Send) bool {
	return sameSender(s, impl.Send{})
}

// positionCount returns the number of positions of a stream.
func positionCount(s impl.Send) int {
	if s.Finished {
		return len(s.Data) + 1
	}
	return len(s.Data)
}

// positionsOf returns the positions of a part.
func positionsOf(s impl.Send, p impl.Part) []int {
	list := []int{}
	for i := range len(p.Data) {
		list = append(list, p.Offset+i)
	}
	if p.Fin {
		list = append(list, len(s.Data))
	}
	return list
}

// isSetBelow reports whether l is a set of numbers less than next.
func isSetBelow(l []impl.Range, next int) bool {
	is := len(l) <= 16
	for i, r := range l {
		is = is && 0 <= r.Low && r.Low <= r.High && r.High < next && r.High <= 999
		is = is && (i == 0 || l[i-1].High+2 <= r.Low)
	}
	return is
}

// expectedSenderValid checks each rule of the specification on its own.
func expectedSenderValid(s impl.Send) bool {
	valid := len(s.Data) <= 30 && 0 <= s.Limit && s.Limit <= 30 && 0 <= s.Next && s.Next <= positionCount(s)
	valid = valid && (s.Next <= s.Limit || len(s.Data) <= s.Limit)
	valid = valid && isSetBelow(s.Acked, s.Next) && isSetBelow(s.Lost, s.Next)
	for n := 0; valid && n < s.Next; n++ {
		valid = !numbersHave(s.Acked, n) || !numbersHave(s.Lost, n)
	}
	return valid
}

func numbersHave(l []impl.Range, n int) bool {
	return slices.ContainsFunc(l, func(r impl.Range) bool { return r.Low <= n && n <= r.High })
}

// expectedPartSent follows the sentences of the specification for a valid stream.
func expectedPartSent(c partCall) bool {
	s, p := c.s, c.p
	sent := 0 <= p.Offset && p.Offset <= 30 && (len(p.Data) > 0 || p.Fin)
	for i := range len(p.Data) {
		sent = sent && p.Offset+i < len(s.Data) && p.Offset+i < s.Next && s.Data[p.Offset+i] == p.Data[i]
	}
	if p.Fin {
		sent = sent && s.Finished && len(s.Data) < s.Next && p.Offset+len(p.Data) == len(s.Data)
	}
	return sent
}

// expectedPartAck marks the positions of a part that was sent.
func expectedPartAck(c partCall) impl.Send {
	drawing := []byte(drawingOf(c.s))
	for _, n := range positionsOf(c.s, c.p) {
		drawing[n] = 'a'
	}
	return redrawn(c.s, string(drawing))
}

// expectedPartLoss marks the positions of a part that was sent, but for those
// that are acknowledged.
func expectedPartLoss(c partCall) impl.Send {
	drawing := []byte(drawingOf(c.s))
	for _, n := range positionsOf(c.s, c.p) {
		if drawing[n] != 'a' {
			drawing[n] = 'l'
		}
	}
	return redrawn(c.s, string(drawing))
}

// expectedNext takes position after position of a valid stream, as long as the
// next one is lost, too, or may be sent for the first time.
func expectedNext(s impl.Send, size int) (impl.Send, impl.Part, bool) {
	drawing := drawingOf(s)
	low := strings.IndexByte(drawing, 'l')
	isDue := func(n int) bool { return n < len(drawing) && drawing[n] == 'l' }
	if low < 0 {
		low = s.Next
		isDue = func(n int) bool { return n < len(s.Data) && n < s.Limit || n == len(s.Data) && s.Finished }
	}
	high, p := low, impl.Part{Offset: low}
	for len(p.Data) < size && high < len(s.Data) && isDue(high) {
		p.Data += s.Data[high : high+1]
		high++
	}
	if high == len(s.Data) && isDue(high) {
		p.Fin = true
		high++
	}
	if high == low {
		return s, impl.Part{}, false
	}
	rest := drawing[min(high, len(drawing)):]
	return redrawn(s, drawing[:low]+strings.Repeat(".", high-low)+rest), p, true
}

// sampleDrawings returns ways to mark the positions before next: all alike, one
// or all but one, two marks in turn, halves, and any.
func sampleDrawings(source *rand.Rand, next int) []string {
	last, middle := next-1, next/2
	inTurn := func(marks string) func(n int) byte {
		return func(n int) byte { return marks[n%len(marks)] }
	}
	one := func(at int, mark byte, other byte) func(n int) byte {
		return func(n int) byte {
			if n == at {
				return mark
			}
			return other
		}
	}
	half := func(low byte, high byte) func(n int) byte {
		return func(n int) byte {
			if n < middle {
				return low
			}
			return high
		}
	}
	random := func(marks string) func(n int) byte {
		return func(n int) byte { return marks[source.Intn(len(marks))] }
	}
	list := []string{}
	for _, rule := range []func(n int) byte{
		inTurn("."), inTurn("a"), inTurn("l"), inTurn("al"), inTurn("la"), inTurn("a."), inTurn(".a"), inTurn("l."), inTurn(".l"), inTurn("lla.aall.."),
		one(0, 'l', '.'), one(0, 'a', 'l'), one(last, 'l', '.'), one(last, 'l', 'a'), one(last, 'a', '.'), one(last, 'a', 'l'), one(last, '.', 'a'), one(last, '.', 'l'),
		one(middle, 'l', '.'), one(middle, 'a', 'l'), one(middle, '.', 'l'), half('a', 'l'), half('l', 'a'), half('a', '.'), half('.', 'l'), half('l', '.'),
		random(".al"), random("al"), random(".l"), random("aaal"), random("llla"), random("....l"),
	} {
		drawing := ""
		for n := range next {
			drawing += string([]byte{rule(n)})
		}
		list = append(list, drawing)
	}
	slices.Sort(list)
	return slices.Compact(list)
}

// dataOf returns data of size bytes that are all different, all the same, or any.
func dataOf(source *rand.Rand, size int) string {
	return []string{letters(0, size), letters(0, size), strings.Repeat("a", size), strings.Repeat("\x00", size), randomBytes(source, size)}[source.Intn(5)]
}

// sampleSenders returns valid streams: data and limits of various lengths, with
// Next at and next to their ends, and positions marked in various ways.
func sampleSenders() []impl.Send {
	source, list := rand.New(rand.NewSource(32)), []impl.Send{}
	for _, size := range []int{0, 1, 2, 5, 12, 13, 16, 29, 30} {
		for _, finished := range []bool{false, true} {
			count := positionCount(impl.Send{Data: letters(0, size), Finished: finished})
			for _, limit := range inside(0, 30, 0, 1, size/2, size-1, size, size+1, 29, 30) {
				for _, next := range inside(0, count, 0, 1, size/2, limit-1, limit, size-1, size, size+1) {
					for _, drawing := range sampleDrawings(source, next) {
						if s := sender(dataOf(source, size), finished, limit, drawing); min(next, size) <= limit {
							list = append(list, s)
						}
					}
				}
			}
		}
	}
	return list
}

// forDrawings calls check for all drawings of a length.
func forDrawings(length int, check func(drawing string)) {
	if length == 0 {
		check("")
		return
	}
	forDrawings(length-1, func(drawing string) {
		for _, mark := range []string{".", "a", "l"} {
			check(drawing + mark)
		}
	})
}

// forSmallSenders calls check for all valid streams with this data, with limits
// of at most one more, and of MaxOffset.
func forSmallSenders(data string, check func(s impl.Send)) {
	for _, finished := range []bool{false, true} {
		count := positionCount(impl.Send{Data: data, Finished: finished})
		for next := 0; next <= count; next++ {
			forDrawings(next, func(drawing string) {
				for limit := min(next, len(data)); limit <= len(data)+1; limit++ {
					check(sender(data, finished, limit, drawing))
				}
				check(sender(data, finished, 30, drawing))
			})
		}
	}
}

// forSenders calls check for sample streams and for small ones.
func forSenders(check func(s impl.Send)) {
	for _, s := range sampleSenders() {
		check(s)
	}
	for _, data := range []string{"", "a", "aa", "ab", "aba", "abcd"} {
		forSmallSenders(data, check)
	}
}

// sentParts returns all parts of a valid stream that were sent.
func sentParts(s impl.Send) []impl.Part {
	list, sent := []impl.Part{}, min(s.Next, len(s.Data))
	for low := 0; low <= sent; low++ {
		for high := low + 1; high <= sent; high++ {
			list = append(list, part(low, s.Data[low:high], false))
		}
		if s.Finished && s.Next > len(s.Data) {
			list = append(list, part(low, s.Data[low:], true))
		}
	}
	return list
}

// fewParts returns all parts if they are few, and otherwise the first and the
// last one, which is the end alone if that was sent, and some others.
func fewParts(source *rand.Rand, list []impl.Part, count int) []impl.Part {
	if len(list) <= count {
		return list
	}
	few := []impl.Part{list[0], list[len(list)-1]}
	for len(few) < count {
		few = append(few, list[source.Intn(len(list))])
	}
	return few
}

// forPartCalls calls check for valid streams and parts of them that were sent,
// and fails the test if these are few.
func forPartCalls(t *testing.T, check func(c partCall)) {
	t.Helper()
	source, count := rand.New(rand.NewSource(3232)), 0
	forSenders(func(s impl.Send) {
		for _, p := range fewParts(source, sentParts(s), 20) {
			count++
			check(partCall{s, p})
		}
	})
	if count < 50000 {
		t.Errorf("only %d parts were sent", count)
	}
}

// otherParts returns parts that differ in one thing from one that was sent, and
// some of which may have been sent, too.
func otherParts(s impl.Send, p impl.Part) []impl.Part {
	list := []impl.Part{
		part(p.Offset, p.Data, !p.Fin), part(p.Offset-1, p.Data, p.Fin), part(p.Offset+1, p.Data, p.Fin), part(-1, p.Data, p.Fin), part(31, p.Data, p.Fin),
		part(p.Offset, p.Data+"a", p.Fin), part(p.Offset, p.Data+strings.Repeat("a", 30), p.Fin), part(p.Offset, "", p.Fin), part(p.Offset, "", false),
		part(30, p.Data, p.Fin), part(-p.Offset, p.Data, p.Fin), part(p.Offset+1<<32, p.Data, p.Fin), part(p.Offset+math.MinInt, p.Data, p.Fin), part(math.MaxInt-p.Offset, p.Data, p.Fin),
	}
	for i := range len(p.Data) {
		list = append(list, part(p.Offset, withOtherByte(p.Data, i), p.Fin), part(p.Offset, p.Data[:i], p.Fin), part(p.Offset+i, p.Data, p.Fin))
	}
	for end := p.Offset; end <= len(s.Data); end++ {
		list = append(list, part(p.Offset, s.Data[p.Offset:end], false), part(p.Offset, s.Data[p.Offset:end], true), part(end, "", true))
	}
	return list
}

// forAnyParts calls check for valid streams and parts at all offsets, sent or not.
func forAnyParts(check func(c partCall)) {
	source := rand.New(rand.NewSource(323))
	for i, s := range sampleSenders() {
		if i%4 != 0 {
			continue
		}
		for _, p := range append(fewParts(source, sentParts(s), 4), part(0, s.Data, s.Finished), part(len(s.Data), "", true), part(s.Limit, "", true)) {
			check(partCall{s, p})
			for _, other := range otherParts(s, p) {
				check(partCall{s, other})
			}
		}
	}
	parts := append(smallParts(4), "c", "bc", "abc", "abcd")
	for _, data := range []string{"", "a", "aa", "ab", "aba"} {
		forSmallSenders(data, func(s impl.Send) {
			for offset := -1; offset <= len(data)+1; offset++ {
				for _, text := range parts {
					check(partCall{s, part(offset, text, false)})
					check(partCall{s, part(offset, text, true)})
				}
			}
		})
	}
}

// invalidSenders returns streams that are valid but for one thing.
func invalidSenders() []impl.Send {
	list := []impl.Send{}
	for _, wrong := range noOffsets {
		list = append(list, sender("", false, wrong, ""), sender("", true, wrong, "."), sender("abcdef", true, wrong, ".al.al."), sender(letters(0, 30), true, wrong, strings.Repeat("a", 31)))
	}
	for _, size := range []int{31, 32, 42, 256, 300, 1 << 16} {
		for _, finished := range []bool{false, true} {
			list = append(list, sender(strings.Repeat("a", size), finished, 30, ""), sender(strings.Repeat("a", size), finished, 0, ""), sender(strings.Repeat("a", size), finished, 30, "al."))
		}
	}
	return slices.Concat(list, sendersWithWrongNext(), sendersWithWrongSets())
}

// sendersWithWrongNext returns streams that are valid but for Next, which is
// out of range, behind the positions or, without the end, behind Limit.
func sendersWithWrongNext() []impl.Send {
	list := []impl.Send{}
	for size := range 31 {
		for _, finished := range []bool{false, true} {
			s := sender(letters(0, size), finished, 30, "")
			for _, wrong := range []int{-1, -2, math.MinInt, math.MaxInt, 32, 1000, 1 << 32, positionCount(s) + 1, positionCount(s) + 2} {
				s.Next = wrong
				list = append(list, s)
			}
			for limit := range size {
				list = append(list, sender(s.Data, finished, limit, strings.Repeat("a", limit+1)), sender(s.Data, finished, limit, strings.Repeat(".", size)))
			}
			if finished && size > 0 {
				list = append(list, sender(s.Data, true, size-1, strings.Repeat("a", size+1)), sender(s.Data, true, 0, strings.Repeat("l", size+1)))
			}
		}
	}
	return list
}

// sendersWithWrongSets returns streams that are valid but for Acked and Lost.
func sendersWithWrongSets() []impl.Send {
	list := []impl.Send{}
	add := func(s impl.Send, acked []impl.Range, lost []impl.Range) {
		s.Acked, s.Lost = acked, lost
		list = append(list, s)
	}
	full, open := sender(letters(0, 30), true, 30, strings.Repeat(".", 31)), sender(letters(0, 30), false, 30, strings.Repeat(".", 30))
	for _, s := range []impl.Send{full, open, sender("", false, 30, ""), sender("abcdef", true, 30, "......")} {
		// What is no set, and what is one, but with numbers that were not sent.
		wrong := append(invalidSets(), rangeList(s.Next, s.Next), rangeList(0, s.Next), rangeList(max(s.Next-1, 0), s.Next), rangeList(s.Next+1, s.Next+1), rangeList(999, 999), rangeList(0, 999))
		if s.Next > 3 {
			wrong = append(wrong, rangeList(0, 0, 2, s.Next), rangeList(0, 0, s.Next, s.Next), rangeList(0, 1, 3, 3, s.Next+5, s.Next+9))
		}
		for _, set := range wrong {
			add(s, set, nil)
			add(s, nil, set)
			if s.Next > 3 {
				add(s, set, rangeList(2, 2))
				add(s, rangeList(2, 2), set)
			}
		}
	}
	// One number, and more of them, are acknowledged and lost.
	for n := range 31 {
		add(full, rangeList(n, n), rangeList(n, n))
		add(full, rangeList(0, n), rangeList(n, n))
		add(full, rangeList(n, n), rangeList(n, 30))
		add(full, rangeList(n, 30), rangeList(0, n))
		add(full, rangeList(0, 30), rangeList(n, n))
		add(full, rangeList(n, n), rangeList(0, 30))
	}
	add(full, rangeList(0, 2, 8, 9), rangeList(4, 6, 9, 11))
	add(full, rangeList(0, 0, 30, 30), rangeList(2, 2, 30, 30))
	add(full, spacedRanges(16, 0, 1, 1), spacedRanges(16, 0, 1, 1))
	return list
}

func expectSenderValid(t *testing.T, s impl.Send, want bool) {
	t.Helper()
	if impl.SendValid(s) != want {
		t.Fatalf("SendValid(%v) returned %t", s, !want)
	}
}

func expectWrite(t *testing.T, s impl.Send, data string, want impl.Send, ok bool) {
	t.Helper()
	if next, got := impl.SendWrite(s, data); got != ok || !sameSender(next, want) {
		t.Fatalf("SendWrite(%v, %q) returned %v, %t, want %v, %t", s, data, next, got, want, ok)
	}
}

func expectFinish(t *testing.T, s impl.Send, want impl.Send, ok bool) {
	t.Helper()
	if next, got := impl.SendFinish(s); got != ok || !sameSender(next, want) {
		t.Fatalf("SendFinish(%v) returned %v, %t, want %v, %t", s, next, got, want, ok)
	}
}

func expectSendGrant(t *testing.T, s impl.Send, limit int, want impl.Send, ok bool) {
	t.Helper()
	if next, got := impl.SendGrant(s, limit); got != ok || !sameSender(next, want) {
		t.Fatalf("SendGrant(%v, %d) returned %v, %t, want %v, %t", s, limit, next, got, want, ok)
	}
}

func expectNext(t *testing.T, s impl.Send, size int, want impl.Send, p impl.Part) {
	t.Helper()
	if next, got, ok := impl.SendNext(s, size); !ok || got != p || !sameSender(next, want) {
		t.Fatalf("SendNext(%v, %d) returned %v, %v, %t, want %v, %v", s, size, next, got, ok, want, p)
	}
}

// expectNextFails checks that SendNext fails and returns this stream.
func expectNextFails(t *testing.T, s impl.Send, size int, want impl.Send) {
	t.Helper()
	if next, got, ok := impl.SendNext(s, size); ok || got != (impl.Part{}) || !sameSender(next, want) {
		t.Fatalf("SendNext(%v, %d) returned %v, %v, %t, want %v", s, size, next, got, ok, want)
	}
}

// expectDrawnNext checks that SendNext returns the stream of a drawing.
func expectDrawnNext(t *testing.T, s impl.Send, size int, drawing string, p impl.Part) {
	t.Helper()
	expectNext(t, s, size, redrawn(s, drawing), p)
}

func expectPartSent(t *testing.T, c partCall, want bool) {
	t.Helper()
	if impl.PartSent(c.s, c.p) != want {
		t.Fatalf("PartSent%v returned %t", c, !want)
	}
}

func expectPartAck(t *testing.T, c partCall, want impl.Send) {
	t.Helper()
	if next, ok := impl.SendAck(c.s, c.p); !ok || !sameSender(next, want) {
		t.Fatalf("SendAck%v returned %v, %t, want %v", c, next, ok, want)
	}
}

func expectPartLoss(t *testing.T, c partCall, want impl.Send) {
	t.Helper()
	if next, ok := impl.SendLoss(c.s, c.p); !ok || !sameSender(next, want) {
		t.Fatalf("SendLoss%v returned %v, %t, want %v", c, next, ok, want)
	}
}

// expectNoPart checks that a part was not sent, or that its stream is invalid.
func expectNoPart(t *testing.T, c partCall) {
	t.Helper()
	expectPartSent(t, c, false)
	if next, ok := impl.SendAck(c.s, c.p); ok || !isZeroSender(next) {
		t.Fatalf("SendAck%v returned %v, %t", c, next, ok)
	}
	if next, ok := impl.SendLoss(c.s, c.p); ok || !isZeroSender(next) {
		t.Fatalf("SendLoss%v returned %v, %t", c, next, ok)
	}
}

func expectDone(t *testing.T, s impl.Send, want bool) {
	t.Helper()
	if impl.SendDone(s) != want {
		t.Fatalf("SendDone(%v) returned %t", s, !want)
	}
}

// newSender returns a new stream, and fails the test if there is none.
func newSender(t *testing.T, limit int) impl.Send {
	t.Helper()
	s, ok := impl.SendNew(limit)
	if !ok || !sameSender(s, sender("", false, limit, "")) {
		t.Fatalf("SendNew(%d) returned %v, %t", limit, s, ok)
	}
	return s
}

// afterPartAck returns the stream after SendAck, which must not fail.
func afterPartAck(t *testing.T, c partCall) impl.Send {
	t.Helper()
	next, ok := impl.SendAck(c.s, c.p)
	if !ok {
		t.Fatalf("SendAck%v failed", c)
	}
	return next
}

// afterPartLoss returns the stream after SendLoss, which must not fail.
func afterPartLoss(t *testing.T, c partCall) impl.Send {
	t.Helper()
	next, ok := impl.SendLoss(c.s, c.p)
	if !ok {
		t.Fatalf("SendLoss%v failed", c)
	}
	return next
}

func TestSendNew(t *testing.T) {
	for limit := range 31 {
		s := newSender(t, limit)
		expectSenderValid(t, s, true)
		expectDone(t, s, false)
		expectNextFails(t, s, 12, s)
	}
	for _, wrong := range noOffsets {
		if s, ok := impl.SendNew(wrong); ok || !isZeroSender(s) {
			t.Fatalf("SendNew(%d) returned %v, %t", wrong, s, ok)
		}
	}
}

func TestSendValidExamples(t *testing.T) {
	all := letters(0, 30)
	for _, s := range []impl.Send{
		// The zero value is a stream without data and with a limit of 0.
		{}, sender("", false, 30, ""), sender("", true, 0, ""), sender("", true, 0, "."), sender("", true, 0, "a"), sender("", true, 30, "l"),
		sender("a", false, 0, ""), sender("a", false, 1, "."), sender("a", true, 1, ".."), sender("a", true, 1, "la"),
		// Next is 0, Limit, the length of Data, and behind the end.
		sender("abcdef", true, 3, ""), sender("abcdef", true, 3, "..."), sender("abcdef", false, 3, "a.l"), sender("abcdef", false, 6, "......"), sender("abcdef", true, 6, "......"),
		sender("abcdef", true, 6, "......."), sender("abcdef", true, 7, "......."), sender("abcdef", true, 30, "......."), sender("abcdef", false, 30, "......"),
		// All positions, the end alone, and the end together with bytes.
		sender("abcdef", true, 6, "aaaaaaa"), sender("abcdef", true, 6, "lllllll"), sender("abcdef", true, 6, "......a"), sender("abcdef", true, 6, "......l"),
		sender("abcdef", true, 6, "llllaaa"), sender("abcdef", true, 6, "aaaalll"), sender("abcdef", true, 6, "alalala"),
		sender(all, true, 30, strings.Repeat("a", 31)), sender(all, true, 30, strings.Repeat("a", 30)+"l"), sender(all, false, 30, strings.Repeat("l", 30)), sender(all, true, 0, ""), sender(all, true, 30, strings.Repeat("la", 15)+"l"),
	} {
		if !expectedSenderValid(s) {
			t.Fatalf("%v is invalid", s)
		}
		expectSenderValid(t, s, true)
	}
	for _, s := range invalidSenders() {
		if expectedSenderValid(s) {
			t.Fatalf("%v is valid", s)
		}
		expectSenderValid(t, s, false)
	}
}

func TestSendValidSamples(t *testing.T) {
	counts := map[string]int{}
	forSenders(func(s impl.Send) {
		if !expectedSenderValid(s) {
			t.Fatalf("%v is invalid", s)
		}
		expectSenderValid(t, s, true)
		drawing := drawingOf(s)
		isEnd := s.Next == len(s.Data)+1
		for name, is := range map[string]bool{
			"the end was sent": isEnd, "the end was not sent": s.Finished && !isEnd, "not finished": !s.Finished, "Limit is Next": s.Limit == s.Next, "Limit is below Next": s.Limit < s.Next,
			"Limit is below the length": s.Limit < len(s.Data), "Limit is the length": s.Limit == len(s.Data), "Limit is above the length": s.Limit > len(s.Data),
			"nothing was sent": s.Next == 0, "all is acknowledged": s.Next > 0 && drawing == strings.Repeat("a", s.Next), "all is lost": s.Next > 0 && drawing == strings.Repeat("l", s.Next),
			"the end alone is acknowledged": isEnd && strings.IndexByte(drawing, 'a') == s.Next-1, "the end alone is lost": isEnd && strings.IndexByte(drawing, 'l') == s.Next-1,
			"the end is lost with a byte": isEnd && strings.HasSuffix(drawing, "ll"), "the end is acknowledged with a byte": isEnd && strings.HasSuffix(drawing, "aa"),
			"only the last byte is lost": isEnd && strings.HasSuffix(drawing, "l.") || isEnd && strings.HasSuffix(drawing, "la"), "more ranges are lost": len(s.Lost) > 1, "more ranges are acknowledged": len(s.Acked) > 1,
		} {
			if is {
				counts[name]++
			}
		}
	})
	for name, count := range counts {
		if count < 100 {
			t.Errorf("only %d streams where: %s", count, name)
		}
	}
	if len(counts) != 18 {
		t.Errorf("the streams are %v", counts)
	}
}

func TestSendValidAllNumbers(t *testing.T) {
	for size := range 33 {
		for limit := -2; limit <= 33; limit++ {
			for next := -2; next <= 34; next++ {
				for _, finished := range []bool{false, true} {
					s := impl.Send{Data: letters(0, size), Finished: finished, Limit: limit, Next: next}
					expectSenderValid(t, s, expectedSenderValid(s))
				}
			}
		}
	}
}

func TestSendValidAllSets(t *testing.T) {
	for next := range 7 {
		for acked := range 1 << 7 {
			for lost := range 1 << 7 {
				var a, l numberSet
				for n := range 7 {
					a[n], l[n] = acked>>n&1 == 1, lost>>n&1 == 1
				}
				s := impl.Send{Data: "abcde", Finished: true, Limit: 5, Next: next, Acked: a.ranges(), Lost: l.ranges()}
				expectSenderValid(t, s, acked&lost == 0 && (acked|lost)>>next == 0)
			}
		}
	}
}

// forNexts calls check for valid streams and all sizes.
func forNexts(check func(s impl.Send, size int)) {
	forSenders(func(s impl.Send) {
		for size := 1; size <= 12; size++ {
			check(s, size)
		}
	})
}

func TestNextAll(t *testing.T) {
	counts := map[string]int{}
	forNexts(func(s impl.Send, size int) {
		want, p, ok := expectedNext(s, size)
		if !ok {
			counts["none"]++
			expectNextFails(t, s, size, s)
			return
		}
		expectNext(t, s, size, want, p)
		kind := "new"
		if len(s.Lost) > 0 {
			kind = "lost"
		}
		if p.Fin && p.Data == "" {
			kind += " end"
		} else if p.Fin {
			kind += " bytes and end"
		} else if p.Offset+len(p.Data) == len(s.Data) && s.Finished {
			kind += " last bytes"
		}
		counts[kind]++
	})
	for _, kind := range []string{"none", "new", "new end", "new bytes and end", "lost", "lost end", "lost bytes and end", "lost last bytes"} {
		if counts[kind] < 200 {
			t.Errorf("only %d parts are: %s", counts[kind], kind)
		}
	}
	// New bytes up to the last one never go without the end.
	if len(counts) != 8 {
		t.Errorf("the parts are %v", counts)
	}
}

func TestPromise127PartSent(t *testing.T) {
	count := 0
	forNexts(func(s impl.Send, size int) {
		next, p, ok := impl.SendNext(s, size)
		if !ok {
			return
		}
		count++
		if len(p.Data) > size || !expectedSenderValid(next) || !expectedPartSent(partCall{next, p}) {
			t.Fatalf("SendNext(%v, %d) returned %v, %v", s, size, next, p)
		}
		expectSenderValid(t, next, true)
		expectPartSent(t, partCall{next, p}, true)
		if next.Data != s.Data || next.Finished != s.Finished || next.Limit != s.Limit || !slices.Equal(next.Acked, s.Acked) {
			t.Fatalf("SendNext(%v, %d) returned %v", s, size, next)
		}
	})
	if count < 50000 {
		t.Errorf("only %d parts", count)
	}
}

func TestPromise127EachSize(t *testing.T) {
	for size := 1; size <= 12; size++ {
		for length := range 31 {
			data := letters(0, length)
			sent := min(size, length)
			expectDrawnNext(t, sender(data, true, 30, ""), size, strings.Repeat(".", sent)+strings.Repeat(".", max(0, 1-(length-sent))), part(0, data[:sent], sent == length))
			// All is lost, with the end.
			rest := length + 1 - sent
			if sent == length {
				rest = 0
			}
			expectDrawnNext(t, sender(data, true, 30, strings.Repeat("l", length+1)), size, strings.Repeat(".", length+1-rest)+strings.Repeat("l", rest), part(0, data[:sent], sent == length))
			// All bytes are lost, but not the end.
			if length > 0 {
				drawing := strings.Repeat(".", sent) + strings.Repeat("l", length-sent)
				expectDrawnNext(t, sender(data, true, 30, strings.Repeat("l", length)), size, drawing, part(0, data[:sent], false))
				expectDrawnNext(t, sender(data, false, 30, strings.Repeat("l", length)), size, drawing, part(0, data[:sent], false))
				expectDrawnNext(t, sender(data, true, 30, strings.Repeat("l", length)+"a"), size, drawing+"a", part(0, data[:sent], false))
				expectDrawnNext(t, sender(data, true, 30, strings.Repeat("l", length)+"."), size, drawing+".", part(0, data[:sent], false))
			}
		}
	}
}

func TestPromise128Limit(t *testing.T) {
	counts := map[string]int{}
	forNexts(func(s impl.Send, size int) {
		_, p, ok := impl.SendNext(s, size)
		behind := p.Offset + len(p.Data)
		if behind > s.Limit {
			t.Fatalf("SendNext(%v, %d) returned %v", s, size, p)
		}
		if ok && behind == s.Limit && p.Fin {
			counts["up to the limit with the end"]++
		} else if ok && behind == s.Limit {
			counts["up to the limit"]++
		} else if ok {
			counts["before the limit"]++
		}
	})
	for _, name := range []string{"up to the limit with the end", "up to the limit", "before the limit"} {
		if counts[name] < 1000 {
			t.Errorf("only %d parts are %s", counts[name], name)
		}
	}
}

func TestPromise128Examples(t *testing.T) {
	// The limit ends a part before, at and behind the end of the data.
	expectDrawnNext(t, sender("abcdef", true, 4, ""), 12, "....", part(0, "abcd", false))
	expectDrawnNext(t, sender("abcdef", true, 5, "."), 12, ".....", part(1, "bcde", false))
	expectDrawnNext(t, sender("abcdef", false, 5, ""), 12, ".....", part(0, "abcde", false))
	expectDrawnNext(t, sender("abcdef", true, 6, ""), 12, ".......", part(0, "abcdef", true))
	expectDrawnNext(t, sender("abcdef", false, 6, ""), 12, "......", part(0, "abcdef", false))
	expectDrawnNext(t, sender("abcdef", true, 7, ""), 12, ".......", part(0, "abcdef", true))
	// The limit, and not the size, or the size, and not the limit, ends it.
	expectDrawnNext(t, sender("abcdef", true, 3, "."), 2, "...", part(1, "bc", false))
	expectDrawnNext(t, sender("abcdef", true, 3, "."), 1, "..", part(1, "b", false))
	expectDrawnNext(t, sender("abcdef", true, 3, "."), 3, "...", part(1, "bc", false))
	// The end needs no byte of the limit.
	expectDrawnNext(t, sender("abcdef", true, 6, "aaaaaa"), 1, "aaaaaa.", part(6, "", true))
	expectDrawnNext(t, sender("", true, 0, ""), 1, ".", part(0, "", true))
	expectDrawnNext(t, sender(letters(0, 30), true, 30, strings.Repeat("a", 30)), 12, strings.Repeat("a", 30)+".", part(30, "", true))
	// Next is at the limit, with the last byte, or more, behind it.
	for _, s := range []impl.Send{sender("abcdef", true, 5, "....."), sender("abcdef", true, 3, "aaa"), sender("abcdef", false, 5, "aa..."), sender("a", true, 0, ""), sender("abcdef", true, 0, "")} {
		expectNextFails(t, s, 1, s)
		expectNextFails(t, s, 12, s)
	}
}

func TestPromise129Lost(t *testing.T) {
	count := 0
	forNexts(func(s impl.Send, size int) {
		if len(s.Lost) == 0 {
			return
		}
		count++
		next, p, ok := impl.SendNext(s, size)
		if !ok || p.Offset != s.Lost[0].Low || next.Next != s.Next || len(positionsOf(s, p)) == 0 {
			t.Fatalf("SendNext(%v, %d) returned %v, %v, %t", s, size, next, p, ok)
		}
		for n := range 31 {
			within := slices.Contains(positionsOf(s, p), n)
			if within && !numbersHave(s.Lost, n) || numbersHave(next.Lost, n) != (numbersHave(s.Lost, n) && !within) {
				t.Fatalf("SendNext(%v, %d) returned %v, %v", s, size, next, p)
			}
		}
	})
	if count < 10000 {
		t.Errorf("only %d streams with lost positions", count)
	}
}

func TestPromise129Examples(t *testing.T) {
	// One less, exactly, and one more than the first lost range, and the largest size.
	s := sender("abcdefgh", true, 30, "aalll..la")
	expectDrawnNext(t, s, 1, "aa.ll..la", part(2, "c", false))
	expectDrawnNext(t, s, 2, "aa..l..la", part(2, "cd", false))
	for _, size := range []int{3, 4, 12} {
		expectDrawnNext(t, s, size, "aa.....la", part(2, "cde", false))
	}
	// The lost range ends at the last byte; the end is acknowledged, in flight, and not sent.
	for _, drawing := range []string{"aaallla", "aaalll.", "aaalll"} {
		s := sender("abcdef", true, 30, drawing)
		expectDrawnNext(t, s, 2, strings.Replace(drawing, "ll", "..", 1), part(3, "de", false))
		for _, size := range []int{3, 4, 12} {
			expectDrawnNext(t, s, size, strings.ReplaceAll(drawing, "l", "."), part(3, "def", false))
		}
	}
	// It has the last byte and the end.
	s = sender("abcdef", true, 6, "aaallll")
	expectDrawnNext(t, s, 1, "aaa.lll", part(3, "d", false))
	expectDrawnNext(t, s, 2, "aaa..ll", part(3, "de", false))
	for _, size := range []int{3, 4, 12} {
		expectDrawnNext(t, s, size, "aaa....", part(3, "def", true))
	}
	expectDrawnNext(t, sender("abcdef", true, 6, "aaaaall"), 1, "aaaaa..", part(5, "f", true))
	// It is the end alone.
	for _, size := range []int{1, 2, 12} {
		expectDrawnNext(t, sender("abcdef", true, 6, "aaaaaal"), size, "aaaaaa.", part(6, "", true))
		expectDrawnNext(t, sender("abcdef", true, 30, "......l"), size, ".......", part(6, "", true))
		expectDrawnNext(t, sender("", true, 0, "l"), size, ".", part(0, "", true))
		expectDrawnNext(t, sender(letters(0, 30), true, 30, strings.Repeat("a", 30)+"l"), size, strings.Repeat("a", 30)+".", part(30, "", true))
	}
	// The first one of more ranges, with the others as they were.
	expectDrawnNext(t, sender("abcdef", true, 30, "l.l.l.l"), 12, "..l.l.l", part(0, "a", false))
	expectDrawnNext(t, sender("abcdef", true, 30, "alalala"), 12, "a.alala", part(1, "b", false))
	// Lost positions come before new ones, and never together with them.
	expectDrawnNext(t, sender("abcdef", true, 30, "l."), 12, "..", part(0, "a", false))
	expectDrawnNext(t, sender("abcdef", true, 30, "ll"), 12, "..", part(0, "ab", false))
	expectDrawnNext(t, sender("abcdef", false, 2, "al"), 12, "a.", part(1, "b", false))
	expectDrawnNext(t, sender("abcdef", true, 6, "lllll"), 5, ".....", part(0, "abcde", false))
}

func TestPromise130New(t *testing.T) {
	count := 0
	forNexts(func(s impl.Send, size int) {
		next, p, ok := impl.SendNext(s, size)
		if len(s.Lost) > 0 || !ok {
			return
		}
		count++
		positions := positionsOf(s, p)
		if p.Offset != s.Next || len(positions) == 0 || next.Next != positions[len(positions)-1]+1 || next.Next != s.Next+len(positions) || len(next.Lost) > 0 {
			t.Fatalf("SendNext(%v, %d) returned %v, %v", s, size, next, p)
		}
	})
	if count < 10000 {
		t.Errorf("only %d new parts", count)
	}
}

func TestPromise130Examples(t *testing.T) {
	// One less, exactly, and one more than the bytes that are left, and the largest size.
	for _, finished := range []bool{false, true} {
		expectDrawnNext(t, sender("abcdef", finished, 30, "a."), 1, "a..", part(2, "c", false))
		expectDrawnNext(t, sender("abcdef", finished, 30, "a."), 3, "a....", part(2, "cde", false))
		for _, size := range []int{4, 5, 12} {
			drawing := map[bool]string{false: "a.....", true: "a......"}
			expectDrawnNext(t, sender("abcdef", finished, 30, "a."), size, drawing[finished], part(2, "cdef", finished))
		}
	}
	// Only the end is left, also of a stream that has nothing else.
	for _, size := range []int{1, 2, 12} {
		expectDrawnNext(t, sender("abcdef", true, 30, "......"), size, ".......", part(6, "", true))
		expectDrawnNext(t, sender("abcdef", true, 6, "aaaaaa"), size, "aaaaaa.", part(6, "", true))
		expectDrawnNext(t, sender("", true, 30, ""), size, ".", part(0, "", true))
	}
	expectDrawnNext(t, sender("a", true, 1, ""), 1, "..", part(0, "a", true))
	expectDrawnNext(t, sender(letters(0, 30), true, 30, strings.Repeat("a", 24)), 12, strings.Repeat("a", 24)+".......", part(24, letters(24, 30), true))
	expectDrawnNext(t, sender(letters(0, 30), true, 30, strings.Repeat("a", 18)), 12, strings.Repeat("a", 18)+strings.Repeat(".", 13), part(18, letters(18, 30), true))
	expectDrawnNext(t, sender(letters(0, 30), true, 30, strings.Repeat("a", 17)), 12, strings.Repeat("a", 17)+strings.Repeat(".", 12), part(17, letters(17, 29), false))
	expectDrawnNext(t, sender("\x00\xff\xc3\x28\n", false, 30, ""), 4, "....", part(0, "\x00\xff\xc3\x28", false))
}

func TestPromise131Fails(t *testing.T) {
	failed, succeeded := 0, 0
	forNexts(func(s impl.Send, size int) {
		byteLeft := s.Next < len(s.Data) && s.Next < s.Limit
		endLeft := s.Finished && s.Next == len(s.Data)
		if len(s.Lost) == 0 && !byteLeft && !endLeft {
			failed++
			expectNextFails(t, s, size, s)
		} else if _, _, ok := impl.SendNext(s, size); !ok {
			t.Fatalf("SendNext(%v, %d) failed", s, size)
		} else {
			succeeded++
		}
	})
	if failed < 5000 || succeeded < 5000 {
		t.Errorf("only %d calls failed, and %d succeeded", failed, succeeded)
	}
}

func TestPromise131Examples(t *testing.T) {
	all := letters(0, 30)
	for _, s := range []impl.Send{
		{}, sender("", false, 30, ""), sender("", true, 0, "."), sender("", true, 30, "a"), sender("a", false, 0, ""), sender("a", true, 0, ""), sender("a", false, 1, "."), sender("a", true, 1, ".."),
		sender("abcdef", false, 6, "......"), sender("abcdef", false, 30, "aaaaaa"), sender("abcdef", true, 6, "......."), sender("abcdef", true, 30, "aaa.aaa"), sender("abcdef", true, 6, "aaaaaaa"),
		sender("abcdef", true, 5, "aa..."), sender(all, false, 30, strings.Repeat(".", 30)), sender(all, true, 30, strings.Repeat(".", 31)), sender(all, true, 29, strings.Repeat("a", 29)),
	} {
		for size := 1; size <= 12; size++ {
			expectNextFails(t, s, size, s)
		}
	}
}

func TestNextInvalid(t *testing.T) {
	for _, s := range append(invalidSenders(), impl.Send{Limit: -1}, impl.Send{Next: 1}) {
		for _, size := range append([]int{1, 6, 12}, noPartSizes...) {
			expectNextFails(t, s, size, impl.Send{})
		}
	}
	forSenders(func(s impl.Send) {
		for _, size := range noPartSizes {
			expectNextFails(t, s, size, impl.Send{})
		}
	})
}

// sentAll sends all parts of a stream, of at most size bytes each, and returns
// it and the parts.
func sentAll(t *testing.T, s impl.Send, size int) (impl.Send, []impl.Part) {
	t.Helper()
	list := []impl.Part{}
	for {
		next, p, ok := impl.SendNext(s, size)
		if !ok {
			return next, list
		}
		if len(list) > 31 {
			t.Fatalf("%v has more than %d parts", s, len(list))
		}
		s, list = next, append(list, p)
	}
}

// written returns a finished stream with this data.
func written(t *testing.T, text string, limit int) impl.Send {
	t.Helper()
	s, ok := impl.SendWrite(newSender(t, limit), text)
	expectFinish(t, s, sender(text, true, limit, ""), ok)
	return sender(text, true, limit, "")
}

func TestPromise132AllParts(t *testing.T) {
	source := rand.New(rand.NewSource(132))
	for size := 1; size <= 12; size++ {
		for length := range 31 {
			text := dataOf(source, length)
			s, list := sentAll(t, written(t, text, 30), size)
			together := ""
			for i, p := range list {
				if p.Offset != len(together) || p.Fin != (i == len(list)-1) {
					t.Fatalf("the parts of %q are %v", text, list)
				}
				together += p.Data
			}
			if together != text || len(list) != max(1, (length+size-1)/size) {
				t.Fatalf("the parts of %q are %v", text, list)
			}
			source.Shuffle(len(list), func(i, j int) { list[i], list[j] = list[j], list[i] })
			for _, p := range list {
				expectDone(t, s, false)
				s = afterPartAck(t, partCall{s, p})
			}
			expectDone(t, s, true)
			if !sameSender(s, sender(text, true, 30, strings.Repeat("a", length+1))) {
				t.Fatalf("%q was sent as %v", text, s)
			}
		}
	}
}

// lossyRun is a stream of which parts get lost, and acknowledgements, too.
type lossyRun struct {
	text      string
	s         impl.Send
	r         impl.Recv
	flying    []impl.Part
	delivered []impl.Part
}

// step does one thing, as far as it can be done.
func (run *lossyRun) step(t *testing.T, source *rand.Rand) {
	t.Helper()
	take := func(list *[]impl.Part) impl.Part {
		i := source.Intn(len(*list))
		p := (*list)[i]
		*list = slices.Delete(*list, i, i+1)
		return p
	}
	switch what := source.Intn(8); {
	case what == 0 && len(run.s.Data) < len(run.text):
		high := min(len(run.s.Data)+source.Intn(9), len(run.text))
		run.s, _ = impl.SendWrite(run.s, run.text[len(run.s.Data):high])
	case what == 1 && len(run.s.Data) == len(run.text):
		run.s, _ = impl.SendFinish(run.s)
	case what == 2:
		run.s, _ = impl.SendGrant(run.s, source.Intn(31))
	case what <= 4:
		next, p, ok := impl.SendNext(run.s, 1+source.Intn(12))
		if run.s = next; ok {
			run.flying = append(run.flying, p)
		}
	case what == 5 && len(run.flying) > 0:
		run.s = afterPartLoss(t, partCall{run.s, take(&run.flying)})
	case what == 6 && len(run.flying) > 0:
		p := take(&run.flying)
		run.r = put(t, putCall{run.r, p.Offset, p.Data, p.Fin})
		run.delivered = append(run.delivered, p)
		if source.Intn(2) == 0 {
			run.s = afterPartLoss(t, partCall{run.s, p})
		}
	case what == 7 && len(run.delivered) > 0:
		p := run.delivered[source.Intn(len(run.delivered))]
		run.s = afterPartAck(t, partCall{run.s, p})
	}
}

func TestPromise132LossyRuns(t *testing.T) {
	source := rand.New(rand.NewSource(1320))
	for range 1000 {
		run := &lossyRun{text: dataOf(source, source.Intn(31)), s: newSender(t, source.Intn(31)), r: newRecv(t, 30)}
		for count := 0; !impl.SendDone(run.s); count++ {
			if count == 20000 {
				t.Fatalf("%q is not sent, but %v", run.text, run.s)
			}
			run.step(t, source)
			expectSenderValid(t, run.s, true)
			for n := range run.s.Next {
				if numbersHave(run.s.Acked, n) && n < len(run.s.Data) && !wasReceived(run.r, n) {
					t.Fatalf("%d is acknowledged in %v, but was not received", n, run.s)
				}
			}
		}
		expectText(t, run.r, run.text)
	}
}

func TestPromise133AfterLoss(t *testing.T) {
	count := 0
	forPartCalls(t, func(c partCall) {
		drawing := drawingOf(c.s)
		if !slices.ContainsFunc(positionsOf(c.s, c.p), func(n int) bool { return drawing[n] != 'a' }) {
			return
		}
		count++
		lost := afterPartLoss(t, c)
		for _, size := range []int{1, 3, 12} {
			next, p, ok := impl.SendNext(lost, size)
			if !ok || p.Offset != strings.IndexByte(drawingOf(expectedPartLoss(c)), 'l') || next.Next != c.s.Next {
				t.Fatalf("SendNext returned %v, %v, %t after SendLoss%v", next, p, ok, c)
			}
		}
	})
	if count < 20000 {
		t.Errorf("only %d parts are lost", count)
	}
}

// Whatever is lost is sent again as it was.
func TestPromise133SameAgain(t *testing.T) {
	for length := range 31 {
		for size := 1; size <= 12; size++ {
			s, list := sentAll(t, sender(letters(0, length), true, 30, ""), size)
			for _, p := range list {
				lost := afterPartLoss(t, partCall{s, p})
				expectNext(t, lost, size, s, p)
				expectNext(t, lost, max(len(p.Data), 1), s, p)
				expectNext(t, afterPartLoss(t, partCall{lost, p}), 12, s, p)
			}
		}
	}
}

func TestPromise134Loss(t *testing.T) {
	counts := map[string]int{}
	forPartCalls(t, func(c partCall) {
		next, before, marks := afterPartLoss(t, c), drawingOf(c.s), ""
		for n := range c.s.Next {
			within := slices.Contains(positionsOf(c.s, c.p), n)
			if numbersHave(next.Lost, n) != (before[n] == 'l' || within && before[n] != 'a') || numbersHave(next.Acked, n) != (before[n] == 'a') {
				t.Fatalf("SendLoss%v returned %v", c, next)
			}
			if within {
				marks += before[n : n+1]
			}
		}
		expectPartLoss(t, c, expectedPartLoss(c))
		expectSenderValid(t, next, true)
		for name, is := range map[string]bool{
			"wholly acknowledged": strings.Trim(marks, "a") == "", "acknowledged at the beginning": strings.Trim(marks, "a") != "" && marks[0] == 'a', "acknowledged at the end": strings.Trim(marks, "a") != "" && strings.HasSuffix(marks, "a"),
			"acknowledged in the middle": strings.Contains(strings.Trim(marks, "a"), "a"), "lost already": strings.Trim(marks, "l") == "", "in flight": strings.Trim(marks, ".") == "", "the end alone": c.p.Fin && c.p.Data == "", "with the end": c.p.Fin && c.p.Data != "",
		} {
			if is {
				counts[name]++
			}
		}
	})
	for name, count := range counts {
		if count < 200 {
			t.Errorf("only %d parts are %s", count, name)
		}
	}
	if len(counts) != 8 {
		t.Errorf("the parts are %v", counts)
	}
}

// expectDrawnLoss checks that SendLoss returns the stream of a drawing.
func expectDrawnLoss(t *testing.T, before string, p impl.Part, after string) {
	t.Helper()
	s := sender("abcdef", true, 6, before)
	expectPartLoss(t, partCall{s, p}, redrawn(s, after))
}

func TestPromise134Examples(t *testing.T) {
	// Once, twice, in part before, and touching what is lost.
	expectDrawnLoss(t, ".......", part(1, "bcd", false), ".lll...")
	expectDrawnLoss(t, ".lll...", part(1, "bcd", false), ".lll...")
	expectDrawnLoss(t, ".lll...", part(2, "cde", false), ".llll..")
	expectDrawnLoss(t, ".lll...", part(4, "e", false), ".llll..")
	expectDrawnLoss(t, "l.l.l.l", part(0, "abcdef", true), "lllllll")
	expectDrawnLoss(t, "lllllll", part(2, "c", false), "lllllll")
	// Wholly acknowledged, at the beginning, in the middle, and at the end.
	expectDrawnLoss(t, ".aaa...", part(1, "bcd", false), ".aaa...")
	expectDrawnLoss(t, "aaa....", part(1, "bcd", false), "aaal...")
	expectDrawnLoss(t, "..a....", part(1, "bcd", false), ".lal...")
	expectDrawnLoss(t, "...a...", part(1, "bcd", false), ".lla...")
	expectDrawnLoss(t, "a.a.a.a", part(0, "abcdef", true), "alalala")
	expectDrawnLoss(t, "aaaaaaa", part(0, "abcdef", true), "aaaaaaa")
	// The end is lost with bytes, alone, and not at all.
	expectDrawnLoss(t, ".......", part(4, "ef", true), "....lll")
	expectDrawnLoss(t, ".......", part(4, "ef", false), "....ll.")
	expectDrawnLoss(t, ".......", part(6, "", true), "......l")
	expectDrawnLoss(t, "aaaaaa.", part(6, "", true), "aaaaaal")
	expectDrawnLoss(t, "aaaaaa.", part(5, "f", true), "aaaaaal")
	expectDrawnLoss(t, "......a", part(5, "f", true), ".....la")
	expectDrawnLoss(t, "......a", part(6, "", true), "......a")
	expectDrawnLoss(t, "aaaaaa", part(5, "f", false), "aaaaaa")
	// All positions are in turn acknowledged and lost, which needs 16 ranges.
	all := sender(letters(0, 30), true, 30, strings.Repeat("a.", 15)+"a")
	expectPartLoss(t, partCall{all, part(0, all.Data, true)}, redrawn(all, strings.Repeat("al", 15)+"a"))
	all = redrawn(all, strings.Repeat(".a", 15)+".")
	expectPartLoss(t, partCall{all, part(0, all.Data, true)}, redrawn(all, strings.Repeat("la", 15)+"l"))
	expectPartLoss(t, partCall{sender("", true, 0, "."), part(0, "", true)}, sender("", true, 0, "l"))
}

func TestPromise135Ack(t *testing.T) {
	forPartCalls(t, func(c partCall) {
		next, before := afterPartAck(t, c), drawingOf(c.s)
		for n := range c.s.Next {
			within := slices.Contains(positionsOf(c.s, c.p), n)
			if numbersHave(next.Acked, n) != (within || before[n] == 'a') || numbersHave(next.Lost, n) != (!within && before[n] == 'l') {
				t.Fatalf("SendAck%v returned %v", c, next)
			}
		}
		expectPartAck(t, c, expectedPartAck(c))
		expectSenderValid(t, next, true)
	})
}

// expectDrawnAck checks that SendAck returns the stream of a drawing.
func expectDrawnAck(t *testing.T, before string, p impl.Part, after string) {
	t.Helper()
	s := sender("abcdef", true, 6, before)
	expectPartAck(t, partCall{s, p}, redrawn(s, after))
}

func TestPromise135Examples(t *testing.T) {
	// Once, twice, after it was lost, and in part.
	expectDrawnAck(t, ".......", part(1, "bcd", false), ".aaa...")
	expectDrawnAck(t, ".aaa...", part(1, "bcd", false), ".aaa...")
	expectDrawnAck(t, ".lll...", part(1, "bcd", false), ".aaa...")
	expectDrawnAck(t, "lllllll", part(1, "bcd", false), "laaalll")
	expectDrawnAck(t, ".aaa...", part(2, "cde", false), ".aaaa..")
	expectDrawnAck(t, "la.l.al", part(0, "abcdef", true), "aaaaaaa")
	expectDrawnAck(t, "lllllll", part(0, "abcdef", false), "aaaaaal")
	expectDrawnAck(t, "lllllll", part(5, "f", false), "lllllal")
	// The end is acknowledged with bytes, alone, and not at all.
	expectDrawnAck(t, ".......", part(4, "ef", true), "....aaa")
	expectDrawnAck(t, ".......", part(4, "ef", false), "....aa.")
	expectDrawnAck(t, ".......", part(6, "", true), "......a")
	expectDrawnAck(t, "......l", part(6, "", true), "......a")
	expectDrawnAck(t, "......l", part(5, "f", false), ".....al")
	expectDrawnAck(t, "lllllll", part(6, "", true), "lllllla")
	expectDrawnAck(t, "....", part(0, "abcd", false), "aaaa")
	expectPartAck(t, partCall{sender("", true, 0, "."), part(0, "", true)}, sender("", true, 0, "a"))
	// One range becomes two, and there are 16 of them.
	all := sender(letters(0, 30), true, 30, strings.Repeat("l", 31))
	for n := 1; n < 30; n += 2 {
		all = afterPartAck(t, partCall{all, part(n, letters(n, n+1), false)})
	}
	if !sameSender(all, redrawn(all, strings.Repeat("la", 15)+"l")) || len(all.Lost) != 16 {
		t.Fatalf("SendAck of every second byte returned %v", all)
	}
}

func TestPromise136AckTwice(t *testing.T) {
	forPartCalls(t, func(c partCall) {
		once := afterPartAck(t, c)
		expectPartAck(t, c.on(once), once)
		expectPartLoss(t, c.on(once), once)
		// Lost before, or lost twice, makes no difference.
		expectPartAck(t, c.on(afterPartLoss(t, c)), once)
		lost := afterPartLoss(t, c)
		expectPartLoss(t, c.on(lost), lost)
	})
}

func TestPromise137EitherOrder(t *testing.T) {
	source := rand.New(rand.NewSource(137))
	for _, s := range sampleSenders() {
		list := sentParts(s)
		few := fewParts(source, list, 8)
		for _, p := range few {
			for _, q := range few {
				want := afterPartAck(t, partCall{afterPartAck(t, partCall{s, p}), q})
				expectPartAck(t, partCall{afterPartAck(t, partCall{s, q}), p}, want)
			}
		}
	}
	for _, data := range []string{"", "a", "ab", "aba"} {
		forSmallSenders(data, func(s impl.Send) {
			for _, p := range sentParts(s) {
				for _, q := range sentParts(s) {
					want := afterPartAck(t, partCall{afterPartAck(t, partCall{s, p}), q})
					expectPartAck(t, partCall{afterPartAck(t, partCall{s, q}), p}, want)
				}
			}
		})
	}
}

func TestPromise138Sent(t *testing.T) {
	counts := map[string]int{}
	forAnyParts(func(c partCall) {
		if !expectedPartSent(c) {
			counts["not sent"]++
			expectNoPart(t, c)
			return
		}
		expectPartSent(t, c, true)
		if c.p.Offset+len(c.p.Data) > len(c.s.Data) || c.s.Data[c.p.Offset:c.p.Offset+len(c.p.Data)] != c.p.Data {
			t.Fatalf("PartSent%v holds", c)
		}
		for _, n := range positionsOf(c.s, c.p) {
			if n >= c.s.Next {
				t.Fatalf("PartSent%v holds", c)
			}
		}
		switch {
		case !c.p.Fin:
			counts["bytes"]++
		case !c.s.Finished || c.p.Offset+len(c.p.Data) != len(c.s.Data):
			t.Fatalf("PartSent%v holds", c)
		case c.p.Data == "":
			counts["end"]++
		default:
			counts["bytes and end"]++
		}
		expectPartAck(t, c, expectedPartAck(c))
		expectPartLoss(t, c, expectedPartLoss(c))
	})
	for _, name := range []string{"not sent", "bytes", "end", "bytes and end"} {
		if counts[name] < 1000 {
			t.Errorf("only %d parts are: %s", counts[name], name)
		}
	}
}

func TestPromise138Examples(t *testing.T) {
	s := sender("abcdef", true, 6, ".alla.a")
	for _, p := range []impl.Part{
		// Sent whole, in two parts, a piece of one, the end with bytes and alone, more than a frame can carry.
		part(0, "abcdef", true), part(0, "abc", false), part(3, "def", false), part(3, "def", true), part(2, "cd", false), part(5, "f", true), part(5, "f", false), part(6, "", true),
	} {
		expectPartSent(t, partCall{s, p}, true)
	}
	all := letters(0, 30)
	expectPartSent(t, partCall{sender(all, true, 30, strings.Repeat(".", 31)), part(0, all, true)}, true)
	expectPartSent(t, partCall{sender(all, true, 30, strings.Repeat(".", 30)), part(0, all, false)}, true)
	expectPartSent(t, partCall{sender(all, true, 30, strings.Repeat(".", 31)), part(30, "", true)}, true)
	expectPartSent(t, partCall{sender(all, true, 30, strings.Repeat(".", 31)), part(29, all[29:], true)}, true)
	expectPartSent(t, partCall{sender("", true, 0, "."), part(0, "", true)}, true)
	for _, p := range []impl.Part{
		// Without a position, and with other data or the data of another offset.
		{}, part(3, "", false), part(6, "", false), part(0, "abcdeF", true), part(0, "Abc", false), part(1, "abc", false), part(0, "b", false), part(0, "\x00", false),
		// Beyond the data, with the end before or behind it.
		part(0, "abcdefg", false), part(0, "abcdefg", true), part(6, "g", false), part(6, "g", true), part(6, "\x00", false), part(5, "fg", true),
		part(0, "", true), part(3, "", true), part(5, "", true), part(0, "abcde", true), part(7, "", true), part(30, "", true), part(31, "", true), part(-1, "", true), part(7, "a", false),
		// Out of range.
		part(-1, "a", false), part(-1, "ab", false), part(-1, "\x00abcdef", true), part(31, "a", false), part(math.MaxInt, "a", false), part(math.MinInt, "a", false), part(math.MaxInt, "ab", true),
		part(math.MinInt, "", true), part(math.MaxInt, "", true), part(math.MaxInt-5, "abcdef", true), part(1<<32, "abc", false), part(-6, "abcdef", true), part(-1<<32, "abc", false),
	} {
		expectNoPart(t, partCall{s, p})
	}
}

func TestPromise138NotSentYet(t *testing.T) {
	for next := range 8 {
		s := sender("abcdef", true, 30, strings.Repeat(".", next))
		for low := range 7 {
			for high := low; high <= 6; high++ {
				expectPartSent(t, partCall{s, part(low, "abcdef"[low:high], false)}, low < high && high <= next)
				expectPartSent(t, partCall{s, part(low, "abcdef"[low:high], true)}, high == 6 && next == 7)
			}
		}
		if next < 7 {
			open := sender("abcdef", false, 30, strings.Repeat(".", next))
			for low := range 7 {
				expectNoPart(t, partCall{open, part(low, "abcdef"[low:], true)})
				expectPartSent(t, partCall{open, part(low, "abcdef"[low:], false)}, low < 6 && next == 6)
			}
		}
	}
}

func TestPartsOfInvalidSenders(t *testing.T) {
	for _, s := range invalidSenders() {
		few := s.Data[:min(len(s.Data), 3)]
		for _, p := range []impl.Part{{}, part(0, few, false), part(0, "a", false), part(0, s.Data, true), part(len(s.Data), "", true), part(0, "", true), part(-1, "a", false), part(31, "", true)} {
			expectNoPart(t, partCall{s, p})
		}
	}
}

func TestPromise139Write(t *testing.T) {
	counts := map[bool]int{}
	forSenders(func(s impl.Send) {
		left := 30 - len(s.Data)
		for _, size := range inside(0, 31, 0, 1, 2, 12, 13, left-1, left, left+1, 30, 31) {
			text := letters(0, size)
			want, ok := s, !s.Finished && size <= left
			if ok {
				want.Data += text
			}
			expectWrite(t, s, text, want, ok)
			expectSenderValid(t, want, true)
			counts[ok]++
		}
		if finished, ok := impl.SendFinish(s); ok {
			expectWrite(t, finished, "", finished, false)
			expectWrite(t, finished, "a", finished, false)
		}
	})
	if counts[false] < 5000 || counts[true] < 5000 {
		t.Errorf("only %d writes succeed, and %d fail", counts[true], counts[false])
	}
}

func TestPromise139AllSizes(t *testing.T) {
	for before := range 31 {
		s := sender(letters(0, before), false, 30, strings.Repeat("a", before))
		for _, size := range []int{31, 32, 256, 300, 1 << 16, 1<<16 + 1} {
			expectWrite(t, s, strings.Repeat("a", size), s, false)
		}
		for size := range 31 {
			if before+size > 30 {
				expectWrite(t, s, letters(before, before+size), s, false)
			} else {
				want := s
				want.Data = letters(0, before+size)
				expectWrite(t, s, letters(before, before+size), want, true)
			}
		}
	}
	// Bytes are written as they are, whatever was sent before them.
	s := sender("ab", false, 2, "al")
	want := s
	want.Data = "ab\x00\xff\xc3\x28\n"
	expectWrite(t, s, "\x00\xff\xc3\x28\n", want, true)
	expectWrite(t, sender("ab", true, 2, "al"), "", sender("ab", true, 2, "al"), false)
	expectWrite(t, sender("", true, 30, ""), "a", sender("", true, 30, ""), false)
}

func TestPromise140WriteTwice(t *testing.T) {
	source := rand.New(rand.NewSource(140))
	for a := range 31 {
		for b := 0; a+b <= 30; b++ {
			one, two := randomBytes(source, a), randomBytes(source, b)
			s := newSender(t, 30)
			first, _ := impl.SendWrite(s, one)
			second, ok := impl.SendWrite(first, two)
			if !ok || second.Data != one+two {
				t.Fatalf("SendWrite(%v, %q) returned %v, %t", first, two, second, ok)
			}
			expectWrite(t, s, one+two, second, true)
		}
	}
	forSenders(func(s impl.Send) {
		one, two := randomBytes(source, source.Intn(10)), randomBytes(source, source.Intn(10))
		first, ok := impl.SendWrite(s, one)
		second, both := impl.SendWrite(first, two)
		if ok && both {
			expectWrite(t, s, one+two, second, true)
		}
	})
}

func TestPromise141Finish(t *testing.T) {
	forSenders(func(s impl.Send) {
		want := s
		want.Finished = true
		expectFinish(t, s, want, !s.Finished)
		expectFinish(t, want, want, false)
		expectSenderValid(t, want, true)
	})
}

func TestPromise141Examples(t *testing.T) {
	for length := range 31 {
		data := letters(0, length)
		for _, drawing := range []string{"", strings.Repeat("a", length), strings.Repeat(".", length), strings.Repeat("l", length)} {
			finished := sender(data, true, 30, drawing)
			expectFinish(t, sender(data, false, 30, drawing), finished, true)
			expectFinish(t, finished, finished, false)
		}
		// The end is to be sent as soon as the stream is finished.
		open := sender(data, false, 30, strings.Repeat(".", length))
		expectNextFails(t, open, 12, open)
		finished, _ := impl.SendFinish(open)
		expectDrawnNext(t, finished, 1, strings.Repeat(".", length+1), part(length, "", true))
	}
}

func TestPromise142Grant(t *testing.T) {
	forSenders(func(s impl.Send) {
		for _, limit := range inside(0, 30, 0, 1, s.Next, len(s.Data), s.Limit-1, s.Limit, s.Limit+1, 29, 30) {
			want := s
			want.Limit = max(limit, s.Limit)
			expectSendGrant(t, s, limit, want, limit >= s.Limit)
			expectSenderValid(t, want, true)
			for _, size := range []int{1, 12} {
				_, _, before := impl.SendNext(s, size)
				if _, _, after := impl.SendNext(want, size); before && !after {
					t.Fatalf("SendNext(%v, %d) fails with limit %d", s, size, limit)
				}
			}
		}
	})
}

func TestPromise142Examples(t *testing.T) {
	s := sender("abcdef", true, 3, "a.l")
	expectSendGrant(t, s, 2, s, false)
	expectSendGrant(t, s, 0, s, false)
	expectSendGrant(t, s, 3, s, true)
	expectSendGrant(t, s, 4, sender("abcdef", true, 4, "a.l"), true)
	expectSendGrant(t, s, 30, sender("abcdef", true, 30, "a.l"), true)
	expectSendGrant(t, impl.Send{}, 0, impl.Send{}, true)
	expectSendGrant(t, impl.Send{}, 30, sender("", false, 30, ""), true)
	expectSendGrant(t, sender("", false, 30, ""), 30, sender("", false, 30, ""), true)
	expectSendGrant(t, sender("", false, 30, ""), 29, sender("", false, 30, ""), false)
	// Each limit lets further bytes be sent.
	for limit := range 31 {
		start := sender(letters(0, 30), true, 0, "")
		granted, _ := impl.SendGrant(start, limit)
		sent, list := sentAll(t, granted, 12)
		drawing := strings.Repeat(".", limit)
		if limit == 30 {
			drawing += "."
		}
		if !sameSender(sent, sender(start.Data, true, limit, drawing)) {
			t.Fatalf("with limit %d, %v were sent", limit, list)
		}
	}
}

func TestPromise143Done(t *testing.T) {
	done := 0
	forSenders(func(s impl.Send) {
		want := s.Finished && s.Next == len(s.Data)+1 && strings.Trim(drawingOf(s), "a") == ""
		expectDone(t, s, want)
		if !want {
			return
		}
		done++
		for n := range len(s.Data) + 1 {
			if !impl.RangesHas(s.Acked, n) {
				t.Fatalf("SendDone(%v) holds", s)
			}
		}
		if len(s.Lost) > 0 {
			t.Fatalf("SendDone(%v) holds", s)
		}
		for size := 1; size <= 12; size++ {
			expectNextFails(t, s, size, s)
		}
	})
	if done < 20 {
		t.Errorf("only %d streams are done", done)
	}
}

func TestPromise143EachPosition(t *testing.T) {
	for length := range 31 {
		data, all := letters(0, length), strings.Repeat("a", length+1)
		expectDone(t, sender(data, true, 30, all), true)
		expectDone(t, sender(data, true, length, all), true)
		expectDone(t, sender(data, true, 30, all[:length]), false)
		expectDone(t, sender(data, false, 30, all[:length]), false)
		for n := range length + 1 {
			for _, mark := range []string{".", "l"} {
				expectDone(t, sender(data, true, 30, all[:n]+mark+all[n+1:]), false)
			}
		}
	}
	expectDone(t, sender("", true, 0, "a"), true)
	expectDone(t, sender("", true, 0, "."), false)
	expectDone(t, sender("", true, 0, "l"), false)
	expectDone(t, sender("", true, 0, ""), false)
	expectDone(t, impl.Send{}, false)
	// Invalid, but all positions are acknowledged.
	for _, wrong := range noOffsets {
		expectDone(t, sender("abc", true, wrong, "aaaa"), false)
	}
	expectDone(t, impl.Send{Data: "abc", Finished: true, Limit: 3, Next: 3, Acked: rangeList(0, 3)}, false)
	expectDone(t, impl.Send{Data: "abc", Finished: true, Limit: 3, Next: 5, Acked: rangeList(0, 3)}, false)
	expectDone(t, impl.Send{Data: "abc", Finished: true, Limit: 3, Next: 4, Acked: rangeList(0, 3), Lost: rangeList(2, 2)}, false)
	expectDone(t, impl.Send{Data: "abc", Finished: true, Limit: 3, Next: 4, Acked: rangeList(0, 1, 2, 3)}, false)
	expectDone(t, impl.Send{Data: "abc", Finished: true, Limit: 2, Next: 4, Acked: rangeList(0, 3)}, false)
	expectDone(t, sender(letters(0, 31), true, 30, strings.Repeat("a", 32)), false)
}

func TestInvalidSenders(t *testing.T) {
	for _, s := range invalidSenders() {
		for _, data := range []string{"", "a", strings.Repeat("a", 30), strings.Repeat("a", 31)} {
			expectWrite(t, s, data, impl.Send{}, false)
		}
		for _, limit := range append([]int{0, 1, 12, 29, 30, s.Limit}, noOffsets...) {
			expectSendGrant(t, s, limit, impl.Send{}, false)
		}
		expectFinish(t, s, impl.Send{}, false)
		expectDone(t, s, false)
	}
	forSenders(func(s impl.Send) {
		for _, limit := range noOffsets {
			expectSendGrant(t, s, limit, impl.Send{}, false)
		}
	})
}

// sendCalls calls all functions of the chapter and returns the streams that
// they return.
func sendCalls(s impl.Send, parts []impl.Part) []impl.Send {
	fresh, _ := impl.SendNew(30)
	results := []impl.Send{fresh}
	impl.SendValid(s)
	impl.SendDone(s)
	for _, p := range parts {
		impl.PartSent(s, p)
		acked, _ := impl.SendAck(s, p)
		lost, _ := impl.SendLoss(s, p)
		results = append(results, acked, lost)
	}
	for _, size := range []int{0, 1, 2, 5, 12, 13} {
		next, _, _ := impl.SendNext(s, size)
		granted, _ := impl.SendGrant(s, size)
		results = append(results, next, granted)
	}
	granted, _ := impl.SendGrant(s, 30)
	finished, _ := impl.SendFinish(s)
	written, _ := impl.SendWrite(s, "a")
	longer, _ := impl.SendWrite(s, strings.Repeat("a", 31))
	return append(results, granted, finished, written, longer)
}

// spareRanges returns a copy of a set with capacity that is not used.
func spareRanges(l []impl.Range) []impl.Range {
	return append(make([]impl.Range, 0, len(l)+4), l...)
}

// partsForCalls returns parts of a stream that were sent, and two that were not.
func partsForCalls(source *rand.Rand, s impl.Send) []impl.Part {
	return append(slices.Clone(fewParts(source, sentParts(s), 6)), part(31, "", true), part(0, "", false))
}

func TestSendArgumentsStayAsTheyAreAndResultsShareNoMemory(t *testing.T) {
	source := rand.New(rand.NewSource(32323))
	check := func(sample impl.Send, parts []impl.Part) {
		s := sample
		s.Acked, s.Lost = spareRanges(sample.Acked), spareRanges(sample.Lost)
		memory := func() []impl.Range { return slices.Concat(s.Acked[:cap(s.Acked)], s.Lost[:cap(s.Lost)]) }
		before := memory()
		results, again := sendCalls(s, parts), sendCalls(s, parts)
		if !slices.Equal(memory(), before) {
			t.Fatalf("%v was changed to %v", before, memory())
		}
		for i, result := range results {
			// Both sets of one result are apart, too.
			overwrite(result.Acked)
			if !slices.Equal(result.Lost, again[i].Lost) {
				t.Fatalf("Acked and Lost of result %d of %v share memory", i, sample)
			}
			overwrite(result.Lost)
			for j := i + 1; j < len(results); j++ {
				if !sameSender(results[j], again[j]) {
					t.Fatalf("results %d and %d of %v share memory", i, j, sample)
				}
			}
		}
		if !slices.Equal(memory(), before) {
			t.Fatalf("a result shares memory with %v", sample)
		}
	}
	for i, s := range sampleSenders() {
		if i%4 == 0 {
			check(s, partsForCalls(source, s))
		}
	}
	for _, s := range invalidSenders() {
		check(s, []impl.Part{part(0, "a", false), part(0, "", true)})
	}
}

// Overwriting Lost must not reach the spare capacity of Acked, where a later
// append would find it, and the other way round.
func TestSendSetsOfAResultShareNoSpareCapacity(t *testing.T) {
	source := rand.New(rand.NewSource(3))
	for i, s := range sampleSenders() {
		if i%4 != 0 {
			continue
		}
		for j, result := range sendCalls(s, partsForCalls(source, s)) {
			acked := slices.Clone(result.Acked[:cap(result.Acked)])
			overwrite(result.Lost)
			if !slices.Equal(result.Acked[:cap(result.Acked)], acked) {
				t.Fatalf("Acked and Lost of result %d of %v share memory", j, s)
			}
		}
	}
}

// The results depend neither on capacity nor on what follows a set there, also
// if both sets are parts of one array.
func TestSendSpareCapacityCountsNothing(t *testing.T) {
	source := rand.New(rand.NewSource(33))
	for i, s := range append(sampleSenders(), invalidSenders()...) {
		if i%4 != 0 {
			continue
		}
		both := slices.Concat(s.Acked, s.Lost, rangeList(5, 9, 12, 20))
		spare := s
		spare.Acked, spare.Lost = both[:len(s.Acked)], both[len(s.Acked):len(s.Acked)+len(s.Lost)]
		parts := []impl.Part{part(0, "a", false), part(0, s.Data, s.Finished), part(len(s.Data), "", true)}
		if expectedSenderValid(s) {
			parts = append(parts, partsForCalls(source, s)...)
		}
		if !slices.EqualFunc(sendCalls(spare, parts), sendCalls(s, parts), sameSender) {
			t.Fatalf("the results of %v depend on its capacity", s)
		}
	}
}

// The result depends on the arguments alone, not on the calls before.
func TestSendSameArguments(t *testing.T) {
	source := rand.New(rand.NewSource(34))
	for i, s := range sampleSenders() {
		if i%4 != 0 {
			continue
		}
		parts := partsForCalls(source, s)
		want := sendCalls(s, parts)
		for _, result := range want {
			impl.SendNext(result, 12)
			impl.SendFinish(result)
		}
		if !slices.EqualFunc(sendCalls(s, parts), want, sameSender) {
			t.Fatalf("the results of %v change", s)
		}
	}
}
