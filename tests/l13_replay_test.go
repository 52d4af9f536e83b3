package tests

import (
	"math"
	"math/rand"
	"slices"
	"testing"

	"loop.example/multipathtransport/impl"
)

// The registers and tickets of the tests: times and identifiers at the ends of
// their ranges, next to them, and between; the times also next to StrikeWindow.
var (
	replayTimes = []int{0, 1, 2, 9, 10, 11, 12, 20, 21, 500, 979, 988, 989, 990, 998, 999}
	ticketIds   = []int{0, 1, 2, 3, 50, 97, 98, 99}
)

func ticket(id int, issued int) impl.Ticket {
	return impl.Ticket{Id: id, Issued: issued}
}

func register(now int, seen ...impl.Ticket) impl.Register {
	return impl.Register{Now: now, Seen: seen}
}

// rankOf returns an integer by which tickets are ordered.
func rankOf(t impl.Ticket) int {
	return 100*t.Issued + t.Id
}

func sortedTickets(list []impl.Ticket) []impl.Ticket {
	sorted := slices.Clone(list)
	slices.SortFunc(sorted, func(a impl.Ticket, b impl.Ticket) int { return rankOf(a) - rankOf(b) })
	return sorted
}

func sameRegister(a impl.Register, b impl.Register) bool {
	return a.Now == b.Now && slices.Equal(a.Seen, b.Seen)
}

func sameRegisters(a []impl.Register, b []impl.Register) bool {
	return slices.EqualFunc(a, b, sameRegister)
}

func copyOf(list []impl.Register) []impl.Register {
	all := slices.Clone(list)
	for i, r := range all {
		all[i].Seen = slices.Clone(r.Seen)
	}
	return all
}

// structuredRegisters returns valid registers of a time: none, one and all
// tickets of the ends of the window, and full ones that share Issued or Id.
func structuredRegisters(now int) []impl.Register {
	oldest := max(now-10, 0)
	list := []impl.Register{register(now), register(now, ticket(7, oldest)), register(now, ticket(7, now))}
	sameIssued, sameId, spread := []impl.Ticket{}, []impl.Ticket{}, []impl.Ticket{}
	for i := range 8 {
		sameIssued = append(sameIssued, ticket(12*i+3, oldest))
		if oldest+i <= now {
			sameId = append(sameId, ticket(50, oldest+i))
		}
		spread = append(spread, ticket(99-i, oldest+(now-oldest)*i/7))
	}
	spread = sortedTickets(spread)
	for _, seen := range [][]impl.Ticket{sameIssued, sameId, spread} {
		list = append(list, register(now, seen...), register(now, seen[:len(seen)-1]...), register(now, seen[1:]...))
	}
	return list
}

// randomRegister returns a valid register of a time with at most count
// tickets, of which some share Issued or Id.
func randomRegister(source *rand.Rand, now int, count int) impl.Register {
	oldest, seen := max(now-10, 0), []impl.Ticket{}
	for range count {
		t := ticket(source.Intn(100), oldest+source.Intn(now-oldest+1))
		if source.Intn(2) == 0 {
			t.Id = ticketIds[source.Intn(len(ticketIds))]
		}
		if !slices.Contains(seen, t) {
			seen = append(seen, t)
		}
	}
	return register(now, sortedTickets(seen)...)
}

// sampleRegisters returns valid registers of all sample times.
func sampleRegisters() []impl.Register {
	source, list := rand.New(rand.NewSource(13)), []impl.Register{}
	for _, now := range replayTimes {
		list = append(list, structuredRegisters(now)...)
		for count := range 9 {
			list = append(list, randomRegister(source, now, count), randomRegister(source, now, count))
		}
	}
	return list
}

// invalidRegisters returns registers that are valid but for one thing.
func invalidRegisters() []impl.Register {
	nine := []impl.Ticket{}
	for i := range 9 {
		nine = append(nine, ticket(i, 15))
	}
	list := []impl.Register{
		register(20, ticket(2, 15), ticket(1, 15)),
		register(20, ticket(1, 15), ticket(1, 14)),
		register(20, ticket(1, 15), ticket(2, 14)),
		register(20, ticket(2, 15), ticket(1, 14)),
		register(20, ticket(1, 12), ticket(2, 13), ticket(9, 18), ticket(3, 17)),
		register(20, ticket(1, 15), ticket(1, 15)),
		register(20, ticket(0, 10), ticket(1, 15), ticket(1, 15), ticket(2, 20)),
		register(0, ticket(0, 0), ticket(0, 0)),
		register(20, nine...),
		register(15, nine...),
		register(25, nine...),
		register(20, ticket(1, 21)),
		register(20, ticket(1, 15), ticket(1, 21)),
		register(20, ticket(1, 9)),
		register(20, ticket(1, 9), ticket(1, 15)),
		register(0, ticket(1, 1)),
		register(0, ticket(1, -1)),
		register(5, ticket(1, -1)),
		register(5, ticket(1, -5)),
		register(5, ticket(1, -5), ticket(1, 3)),
		register(10, ticket(1, -1)),
		register(11, ticket(1, 0)),
		register(999, ticket(1, 988)),
		register(999, ticket(1, 1000)),
		register(998, ticket(1, 999)),
	}
	for _, wrong := range outsideFrom(999) {
		list = append(list, register(wrong), register(wrong, ticket(1, wrong)), register(wrong, ticket(1, 995)), register(wrong, ticket(1, 2)))
		list = append(list, register(20, ticket(1, wrong)), register(0, ticket(1, wrong)), register(999, ticket(1, wrong)), register(5, ticket(1, wrong)))
	}
	for _, wrong := range outsideFrom(99) {
		list = append(list, register(20, ticket(wrong, 15)), register(20, ticket(5, 14), ticket(wrong, 15), ticket(5, 16)))
	}
	return list
}

// invalidTickets returns what is not a ticket, some of it recent at a sample time.
func invalidTickets() []impl.Ticket {
	list := []impl.Ticket{}
	for _, wrong := range outsideFrom(99) {
		for _, issued := range replayTimes {
			list = append(list, ticket(wrong, issued))
		}
	}
	for _, wrong := range outsideFrom(999) {
		for _, id := range ticketIds {
			list = append(list, ticket(id, wrong))
		}
	}
	return append(list, ticket(-1, -1), ticket(100, 1000), ticket(math.MinInt, math.MaxInt), ticket(math.MaxInt, math.MinInt))
}

// ticketsNear returns tickets that were issued in the window of a register,
// next to its ends, and far from it, together with all that it has seen.
func ticketsNear(r impl.Register) []impl.Ticket {
	list := slices.Clone(r.Seen)
	for _, issued := range []int{r.Now - 12, r.Now - 11, r.Now - 10, r.Now - 9, r.Now - 5, r.Now - 1, r.Now, r.Now + 1, r.Now + 2, 0, 999} {
		for _, id := range ticketIds {
			if issued >= 0 && issued <= 999 {
				list = append(list, ticket(id, issued))
			}
		}
	}
	return list
}

// laterTimes returns times that are not before now, some next to those at
// which a ticket of the window expires.
func laterTimes(now int) []int {
	list := []int{}
	for _, time := range []int{now, now + 1, now + 2, now + 5, now + 9, now + 10, now + 11, now + 12, now + 100, 998, 999} {
		if time >= now && time <= 999 {
			list = append(list, time)
		}
	}
	return list
}

// expectedRegisterValid checks each rule of the specification on its own.
func expectedRegisterValid(r impl.Register) bool {
	ascending := true
	for i, t := range r.Seen {
		for _, other := range r.Seen[:i] {
			ascending = ascending && (other.Issued < t.Issued || other.Issued == t.Issued && other.Id < t.Id)
		}
		if t.Id < 0 || t.Id > 99 || t.Issued < 0 || t.Issued > 999 || t.Issued > r.Now || t.Issued < r.Now-10 {
			return false
		}
	}
	return ascending && len(r.Seen) <= 8 && r.Now >= 0 && r.Now <= 999
}

// expectedTick keeps the tickets that are recent at a valid later time.
func expectedTick(r impl.Register, now int) impl.Register {
	kept := []impl.Ticket{}
	for _, t := range r.Seen {
		if now-t.Issued <= 10 {
			kept = append(kept, t)
		}
	}
	return register(now, kept...)
}

// expectedTry accepts a ticket at a valid register.
func expectedTry(r impl.Register, t impl.Ticket) (impl.Register, bool) {
	age := r.Now - t.Issued
	if age < 0 || age > 10 || len(r.Seen) >= 8 || slices.Contains(r.Seen, t) {
		return r, false
	}
	return register(r.Now, sortedTickets(append(slices.Clone(r.Seen), t))...), true
}

// ticked returns the register after a tick, and fails the test if it is not
// the expected one.
func ticked(t *testing.T, r impl.Register, now int) impl.Register {
	t.Helper()
	got, ok := impl.RegisterTick(r, now)
	if want := expectedTick(r, now); !ok || !sameRegister(got, want) {
		t.Fatalf("RegisterTick(%v, %d) returned %v, %t, want %v, true", r, now, got, ok, want)
	}
	return got
}

// tried returns the results of RegisterTry, and fails the test if they are not
// the expected ones.
func tried(t *testing.T, r impl.Register, k impl.Ticket) (impl.Register, bool) {
	t.Helper()
	got, ok := impl.RegisterTry(r, k)
	if want, accepted := expectedTry(r, k); ok != accepted || !sameRegister(got, want) {
		t.Fatalf("RegisterTry(%v, %v) returned %v, %t, want %v, %t", r, k, got, ok, want, accepted)
	}
	return got, ok
}

func expectRegisterValid(t *testing.T, r impl.Register, want bool) {
	t.Helper()
	if impl.RegisterValid(r) != want {
		t.Fatalf("RegisterValid(%v) returned %t", r, !want)
	}
}

func expectRejected(t *testing.T, r impl.Register, k impl.Ticket) {
	t.Helper()
	if got, ok := impl.RegisterTry(r, k); ok || !sameRegister(got, r) {
		t.Fatalf("RegisterTry(%v, %v) returned %v, %t", r, k, got, ok)
	}
}

func expectNoTry(t *testing.T, r impl.Register, k impl.Ticket) {
	t.Helper()
	if got, ok := impl.RegisterTry(r, k); ok || got.Now != 0 || len(got.Seen) != 0 {
		t.Fatalf("RegisterTry(%v, %v) returned %v, %t", r, k, got, ok)
	}
}

func expectNoTick(t *testing.T, r impl.Register, now int) {
	t.Helper()
	if got, ok := impl.RegisterTick(r, now); ok || got.Now != 0 || len(got.Seen) != 0 {
		t.Fatalf("RegisterTick(%v, %d) returned %v, %t", r, now, got, ok)
	}
}

func expectHome(t *testing.T, servers int, k impl.Ticket, want int) {
	t.Helper()
	if got := impl.TicketHome(servers, k); got != want {
		t.Fatalf("TicketHome(%d, %v) returned %d, want %d", servers, k, got, want)
	}
}

func TestRegisterValidExamples(t *testing.T) {
	expectRegisterValid(t, impl.Register{}, true)
	expectRegisterValid(t, impl.Register{Seen: []impl.Ticket{}}, true)
	expectRegisterValid(t, register(999), true)
	expectRegisterValid(t, register(0, ticket(0, 0), ticket(99, 0)), true)
	expectRegisterValid(t, register(20, ticket(99, 10), ticket(0, 11), ticket(3, 15), ticket(4, 15), ticket(99, 20)), true)
	expectRegisterValid(t, register(999, ticket(5, 989), ticket(5, 999)), true)
	for _, r := range sampleRegisters() {
		expectRegisterValid(t, r, true)
	}
	for _, r := range invalidRegisters() {
		if expectedRegisterValid(r) {
			t.Fatalf("%v is a valid register", r)
		}
		expectRegisterValid(t, r, false)
	}
}

func TestRegisterValidOneTicket(t *testing.T) {
	for now := -12; now <= 1012; now++ {
		for issued := now - 13; issued <= now+3; issued++ {
			for _, id := range []int{-1, 0, 1, 50, 99, 100} {
				r := register(now, ticket(id, issued))
				expectRegisterValid(t, r, expectedRegisterValid(r))
			}
		}
	}
}

func TestRegisterValidThreeTickets(t *testing.T) {
	for _, now := range []int{0, 5, 10, 11, 999} {
		all := []impl.Ticket{}
		for _, issued := range []int{now - 11, now - 10, now - 4, now, now + 1} {
			for _, id := range []int{-1, 0, 1, 99, 100} {
				all = append(all, ticket(id, issued))
			}
		}
		for _, a := range all {
			for _, b := range all {
				for _, c := range all {
					r := register(now, a, b, c)
					expectRegisterValid(t, r, expectedRegisterValid(r))
				}
			}
		}
	}
}

func TestRegisterValidOneWrongPlace(t *testing.T) {
	for _, r := range sampleRegisters() {
		for i := range r.Seen {
			for j := range r.Seen {
				other := register(r.Now, slices.Clone(r.Seen)...)
				other.Seen[i] = r.Seen[j]
				expectRegisterValid(t, other, i == j)
				other.Seen[j] = r.Seen[i]
				expectRegisterValid(t, other, i == j)
			}
			longer := register(r.Now, slices.Insert(slices.Clone(r.Seen), i, r.Seen[i])...)
			expectRegisterValid(t, longer, false)
		}
	}
}

func TestPromise66Examples(t *testing.T) {
	r, ok := tried(t, register(20), ticket(1, 15))
	if !ok || !sameRegister(r, register(20, ticket(1, 15))) {
		t.Fatalf("RegisterTry returned %v, %t", r, ok)
	}
	expectRejected(t, r, ticket(1, 15))
	// Tickets that share only Id or only Issued with it are others.
	for _, other := range []impl.Ticket{ticket(1, 14), ticket(1, 16), ticket(0, 15), ticket(2, 15)} {
		if _, ok := tried(t, r, other); !ok {
			t.Errorf("%v was rejected", other)
		}
	}
	first, ok := tried(t, impl.Register{}, ticket(0, 0))
	if !ok || !sameRegister(first, register(0, ticket(0, 0))) {
		t.Errorf("RegisterTry returned %v, %t", first, ok)
	}
	expectRejected(t, first, ticket(0, 0))
}

func TestPromise66SameTicketAgain(t *testing.T) {
	accepted := 0
	for _, r := range sampleRegisters() {
		for _, k := range ticketsNear(r) {
			next, ok := tried(t, r, k)
			if !ok {
				continue
			}
			accepted++
			expectRejected(t, next, k)
			expectRejected(t, next, k)
			// Also after other tickets have been accepted.
			for _, other := range ticketsNear(r) {
				after, _ := impl.RegisterTry(next, other)
				expectRejected(t, after, k)
			}
		}
	}
	if accepted < 1000 {
		t.Errorf("only %d tickets were accepted", accepted)
	}
}

func TestPromise66Invalid(t *testing.T) {
	valid := []impl.Ticket{ticket(0, 0), ticket(1, 15), ticket(99, 20), ticket(3, 995), ticket(50, 999)}
	for _, r := range invalidRegisters() {
		for _, k := range slices.Concat(valid, r.Seen, invalidTickets()) {
			expectNoTry(t, r, k)
		}
	}
	for _, r := range sampleRegisters() {
		for _, k := range invalidTickets() {
			expectNoTry(t, r, k)
		}
	}
}

func TestPromise67Window(t *testing.T) {
	for now := 0; now <= 999; now++ {
		for issued := max(now-14, 0); issued <= min(now+4, 999); issued++ {
			for _, id := range []int{0, 99} {
				_, ok := tried(t, register(now), ticket(id, issued))
				if want := now-10 <= issued && issued <= now; ok != want {
					t.Fatalf("RegisterTry at %d of a ticket issued at %d returned %t", now, issued, ok)
				}
			}
		}
	}
}

func TestPromise67AllRegisters(t *testing.T) {
	for _, r := range sampleRegisters() {
		for _, k := range ticketsNear(r) {
			next, ok := tried(t, r, k)
			expectRegisterValid(t, next, true)
			if !ok {
				continue
			}
			if k.Issued < r.Now-10 || k.Issued > r.Now || slices.Contains(r.Seen, k) || len(next.Seen) != len(r.Seen)+1 {
				t.Fatalf("RegisterTry(%v, %v) returned %v", r, k, next)
			}
		}
	}
}

func TestPromise67EveryPlace(t *testing.T) {
	seen := []impl.Ticket{ticket(10, 12), ticket(20, 12), ticket(30, 12), ticket(10, 15), ticket(20, 15), ticket(0, 17), ticket(99, 17)}
	for issued := 10; issued <= 20; issued++ {
		for id := 0; id <= 99; id++ {
			for count := range len(seen) + 1 {
				k, r := ticket(id, issued), register(20, seen[:count]...)
				if _, ok := tried(t, r, k); ok == slices.Contains(r.Seen, k) {
					t.Fatalf("RegisterTry(%v, %v) returned %t", r, k, ok)
				}
			}
		}
	}
}

func TestPromise68RejectedLeavesRegister(t *testing.T) {
	rejected := 0
	for _, r := range sampleRegisters() {
		for _, k := range ticketsNear(r) {
			if got, ok := impl.RegisterTry(r, k); !ok {
				rejected++
				if !sameRegister(got, r) {
					t.Fatalf("RegisterTry(%v, %v) returned %v", r, k, got)
				}
			}
		}
	}
	if rejected < 1000 {
		t.Errorf("only %d tickets were rejected", rejected)
	}
}

func TestPromise68Examples(t *testing.T) {
	r := register(20, ticket(4, 10), ticket(1, 15), ticket(9, 20))
	for _, k := range []impl.Ticket{ticket(4, 10), ticket(1, 15), ticket(9, 20), ticket(1, 9), ticket(1, 21), ticket(0, 0), ticket(99, 999)} {
		expectRejected(t, r, k)
	}
	for _, k := range []impl.Ticket{ticket(1, 1), ticket(1, 999)} {
		expectRejected(t, impl.Register{}, k)
	}
	for _, k := range []impl.Ticket{ticket(1, 988), ticket(1, 0)} {
		expectRejected(t, register(999), k)
	}
}

func TestPromise69Examples(t *testing.T) {
	r := register(20, ticket(5, 10), ticket(6, 10), ticket(1, 11), ticket(2, 15), ticket(3, 20))
	tests := []struct {
		now  int
		want []impl.Ticket
	}{
		{20, r.Seen},
		{21, r.Seen[2:]},
		{22, r.Seen[3:]},
		{25, r.Seen[3:]},
		{26, r.Seen[4:]},
		{30, r.Seen[4:]},
		{31, nil},
		{999, nil},
	}
	for _, test := range tests {
		got, ok := impl.RegisterTick(r, test.now)
		if !ok || !sameRegister(got, register(test.now, test.want...)) {
			t.Errorf("RegisterTick(%v, %d) returned %v, %t", r, test.now, got, ok)
		}
		for _, k := range r.Seen {
			expectRejected(t, got, k)
		}
	}
}

func TestPromise69EveryTime(t *testing.T) {
	for _, r := range sampleRegisters() {
		for _, now := range laterTimes(r.Now) {
			next := ticked(t, r, now)
			expectRegisterValid(t, next, true)
			for _, k := range r.Seen {
				expectRejected(t, next, k)
				if known := slices.Contains(next.Seen, k); known == (k.Issued < now-10) {
					t.Fatalf("RegisterTick(%v, %d) returned %v", r, now, next)
				}
			}
		}
	}
}

func TestPromise69TicketsOfAllTimes(t *testing.T) {
	for now := 0; now <= 999; now++ {
		for issued := max(now-10, 0); issued <= now; issued++ {
			r := register(now, ticket(31, issued))
			for later := now; later <= min(now+12, 999); later++ {
				next := ticked(t, r, later)
				expectRejected(t, next, ticket(31, issued))
			}
		}
	}
}

// TestPromise69Run presents tickets at random for as long as times allow. Each
// of them is accepted at most once, whatever was forgotten meanwhile.
func TestPromise69Run(t *testing.T) {
	source := rand.New(rand.NewSource(69))
	forgotten := 0
	for range 60 {
		r, accepted := impl.Register{}, map[impl.Ticket]bool{}
		for step := 0; step < 4000 && r.Now < 999; step++ {
			if source.Intn(4) == 0 {
				before := len(r.Seen)
				r = ticked(t, r, min(r.Now+source.Intn(4), 999))
				forgotten += before - len(r.Seen)
			}
			k := ticket(source.Intn(4)*33, min(max(r.Now-source.Intn(16)+2, 0), 999))
			next, ok := tried(t, r, k)
			if ok && accepted[k] {
				t.Fatalf("%v was accepted twice", k)
			}
			if ok {
				accepted[k] = true
			}
			r = next
		}
	}
	if forgotten < 1000 {
		t.Errorf("only %d tickets were forgotten", forgotten)
	}
}

func TestPromise69Invalid(t *testing.T) {
	for _, r := range invalidRegisters() {
		for _, now := range slices.Concat([]int{r.Now, r.Now + 1, 0, 15, 20, 25, 31, 500, 998, 999}, outsideFrom(999)) {
			expectNoTick(t, r, now)
		}
	}
	for _, r := range sampleRegisters() {
		for _, now := range outsideFrom(999) {
			expectNoTick(t, r, now)
		}
		for _, now := range []int{r.Now - 1, r.Now - 2, r.Now - 10, r.Now - 11, r.Now - 1000, math.MinInt + r.Now} {
			expectNoTick(t, r, now)
		}
	}
}

func TestPromise70TwoTicks(t *testing.T) {
	for _, r := range sampleRegisters() {
		for _, first := range laterTimes(r.Now) {
			between := ticked(t, r, first)
			for _, second := range laterTimes(first) {
				twice, direct := ticked(t, between, second), ticked(t, r, second)
				if !sameRegister(twice, direct) {
					t.Fatalf("%v at %d and %d becomes %v, and at %d %v", r, first, second, twice, second, direct)
				}
			}
		}
	}
}

func TestPromise70UnitByUnit(t *testing.T) {
	for _, r := range sampleRegisters() {
		step := r
		for now := r.Now; now <= min(r.Now+14, 999); now++ {
			step = ticked(t, step, now)
			if direct := ticked(t, r, now); !sameRegister(step, direct) {
				t.Fatalf("%v becomes %v unit by unit, and %v in one tick to %d", r, step, direct, now)
			}
		}
	}
}

func TestPromise71OtherOrder(t *testing.T) {
	pairs := 0
	for _, r := range sampleRegisters() {
		near := ticketsNear(r)
		for _, a := range near {
			afterA, ok := impl.RegisterTry(r, a)
			if !ok {
				continue
			}
			for _, b := range near {
				both, ok := impl.RegisterTry(afterA, b)
				if !ok {
					continue
				}
				pairs++
				afterB, acceptedB := impl.RegisterTry(r, b)
				other, acceptedA := impl.RegisterTry(afterB, a)
				if !acceptedA || !acceptedB || !sameRegister(both, other) {
					t.Fatalf("%v accepts %v and %v as %v, and the other way as %v", r, a, b, both, other)
				}
			}
		}
	}
	if pairs < 10000 {
		t.Errorf("only %d pairs were accepted", pairs)
	}
}

func TestPromise71AllOrders(t *testing.T) {
	// The specification's order, in which any order of acceptance results.
	want := []impl.Ticket{ticket(9, 10), ticket(0, 15), ticket(1, 15), ticket(9, 15), ticket(1, 16), ticket(0, 20), ticket(98, 20), ticket(99, 20)}
	source := rand.New(rand.NewSource(71))
	for range 5000 {
		r := register(20)
		for _, i := range source.Perm(len(want)) {
			next, ok := impl.RegisterTry(r, want[i])
			if !ok {
				t.Fatalf("RegisterTry(%v, %v) returned false", r, want[i])
			}
			r = next
		}
		if !slices.Equal(r.Seen, want) {
			t.Fatalf("Seen is %v, want %v", r.Seen, want)
		}
	}
}

func TestPromise72FullRegister(t *testing.T) {
	full := 0
	for _, r := range sampleRegisters() {
		if len(r.Seen) < 8 {
			continue
		}
		full++
		for issued := max(r.Now-12, 0); issued <= min(r.Now+2, 999); issued++ {
			for id := 0; id <= 99; id++ {
				expectRejected(t, r, ticket(id, issued))
			}
		}
	}
	if full < 40 {
		t.Errorf("only %d registers are full", full)
	}
}

func TestPromise72SpaceByForgetting(t *testing.T) {
	for _, r := range sampleRegisters() {
		for _, now := range laterTimes(r.Now) {
			next, old := ticked(t, r, now), 0
			for _, k := range r.Seen {
				if k.Issued < now-10 {
					old++
				}
			}
			if len(next.Seen) != len(r.Seen)-old {
				t.Fatalf("RegisterTick(%v, %d) returned %v", r, now, next)
			}
			// It accepts as many new tickets as there is space.
			space := 0
			for id := 60; id <= 79; id++ {
				if after, ok := tried(t, next, ticket(id, now)); ok {
					next, space = after, space+1
				}
			}
			if shared := len(r.Seen) - old + space; shared != 8 {
				t.Fatalf("%v at %d has space for %d tickets", r, now, space)
			}
		}
	}
}

func TestPromise72Examples(t *testing.T) {
	r := impl.Register{Now: 30}
	for i := range 8 {
		next, ok := tried(t, r, ticket(i, 20+i))
		if !ok {
			t.Fatalf("RegisterTry(%v) of ticket %d returned false", r, i)
		}
		r = next
	}
	expectRejected(t, r, ticket(8, 30))
	expectRejected(t, ticked(t, r, 30), ticket(8, 30))
	next, ok := tried(t, ticked(t, r, 31), ticket(8, 30))
	if !ok || len(next.Seen) != 8 {
		t.Errorf("RegisterTry returned %v, %t", next, ok)
	}
	expectRejected(t, next, ticket(9, 30))
	expectRejected(t, next, ticket(0, 20))
}

func TestPromise73AllTickets(t *testing.T) {
	for servers := 1; servers <= 4; servers++ {
		for id := 0; id <= 99; id++ {
			want := id
			for want >= servers {
				want -= servers
			}
			for issued := 0; issued <= 999; issued++ {
				expectHome(t, servers, ticket(id, issued), want)
			}
		}
	}
}

func TestPromise73Examples(t *testing.T) {
	expectHome(t, 3, ticket(7, 0), 1)
	expectHome(t, 1, ticket(99, 999), 0)
	expectHome(t, 4, ticket(0, 0), 0)
	expectHome(t, 4, ticket(3, 0), 3)
	expectHome(t, 4, ticket(99, 0), 3)
	expectHome(t, 2, ticket(99, 5), 1)
}

func TestPromise73Invalid(t *testing.T) {
	for _, servers := range append(outsideFrom(4), 0) {
		for _, id := range ticketIds {
			expectHome(t, servers, ticket(id, 20), -1)
		}
		for _, k := range invalidTickets() {
			expectHome(t, servers, k, -1)
		}
	}
	for servers := 1; servers <= 4; servers++ {
		for _, k := range invalidTickets() {
			expectHome(t, servers, k, -1)
		}
	}
}

// serverGroups returns lists of registers of 1 to MaxServers servers, some of
// which have the same time and some of which have the same tickets.
func serverGroups() [][]impl.Register {
	source, groups := rand.New(rand.NewSource(74)), [][]impl.Register{}
	for count := 1; count <= 4; count++ {
		for _, now := range replayTimes {
			fresh, apart := []impl.Register{}, []impl.Register{}
			for i := range count {
				fresh = append(fresh, register(now))
				apart = append(apart, randomRegister(source, min(max(now+3*i-4, 0), 999), source.Intn(9)))
			}
			groups = append(groups, fresh, apart)
			for _, r := range structuredRegisters(now)[1:] {
				groups = append(groups, slices.Repeat([]impl.Register{r}, count))
			}
		}
	}
	return groups
}

// ticketsOf returns tickets to present to a group of servers.
func ticketsOf(servers []impl.Register) []impl.Ticket {
	list := slices.Clone(servers[0].Seen)
	for _, r := range servers {
		for _, issued := range []int{r.Now - 11, r.Now - 10, r.Now - 3, r.Now, r.Now + 1} {
			for _, id := range []int{0, 1, 2, 3, 7, 50, 98, 99} {
				if issued >= 0 && issued <= 999 {
					list = append(list, ticket(id, issued))
				}
			}
		}
	}
	return list
}

// presented returns the results of ServersTry for valid arguments, and fails
// the test if they are not the expected ones.
func presented(t *testing.T, servers []impl.Register, at int, k impl.Ticket) ([]impl.Register, bool) {
	t.Helper()
	want, accepted := copyOf(servers), false
	if k.Id%len(servers) == at {
		want[at], accepted = expectedTry(servers[at], k)
	}
	got, ok := impl.ServersTry(servers, at, k)
	if ok != accepted || !sameRegisters(got, want) {
		t.Fatalf("ServersTry(%v, %d, %v) returned %v, %t, want %v, %t", servers, at, k, got, ok, want, accepted)
	}
	return got, ok
}

// forServers calls check for all groups of servers, each of their servers, and
// tickets to present there.
func forServers(check func(servers []impl.Register, at int, k impl.Ticket)) {
	for _, servers := range serverGroups() {
		for _, k := range ticketsOf(servers) {
			for at := range servers {
				check(servers, at, k)
			}
		}
	}
}

func expectNoServers(t *testing.T, servers []impl.Register, at int, k impl.Ticket) {
	t.Helper()
	if got, ok := impl.ServersTry(servers, at, k); ok || len(got) != 0 {
		t.Fatalf("ServersTry(%v, %d, %v) returned %v, %t", servers, at, k, got, ok)
	}
}

func TestPromise74AcceptedAtHome(t *testing.T) {
	accepted := 0
	forServers(func(servers []impl.Register, at int, k impl.Ticket) {
		next, ok := presented(t, servers, at, k)
		if !ok {
			return
		}
		accepted++
		if at != impl.TicketHome(len(servers), k) {
			t.Fatalf("ServersTry(%v, %d, %v) accepted", servers, at, k)
		}
		for i, r := range next {
			if i != at && !sameRegister(r, servers[i]) {
				t.Fatalf("ServersTry(%v, %d, %v) returned %v", servers, at, k, next)
			}
		}
	})
	if accepted < 1000 {
		t.Errorf("only %d tickets were accepted", accepted)
	}
}

func TestPromise74Examples(t *testing.T) {
	servers := []impl.Register{register(20), register(25, ticket(4, 15)), register(30)}
	next, ok := presented(t, servers, 1, ticket(7, 20))
	want := []impl.Register{register(20), register(25, ticket(4, 15), ticket(7, 20)), register(30)}
	if !ok || !sameRegisters(next, want) {
		t.Errorf("ServersTry returned %v, %t, want %v", next, ok, want)
	}
	// Neither its home nor any other server accepts these.
	for at := range servers {
		for _, k := range []impl.Ticket{ticket(4, 15), ticket(7, 14), ticket(7, 26), ticket(0, 21), ticket(2, 19)} {
			if _, ok := presented(t, servers, at, k); ok {
				t.Errorf("server %d accepted %v", at, k)
			}
		}
	}
	alone, ok := presented(t, []impl.Register{{}}, 0, ticket(99, 0))
	if !ok || !sameRegisters(alone, []impl.Register{register(0, ticket(99, 0))}) {
		t.Errorf("ServersTry returned %v, %t", alone, ok)
	}
}

func TestPromise74InvalidServers(t *testing.T) {
	valid := register(20, ticket(1, 15))
	counts := [][]impl.Register{nil, {}}
	for _, count := range []int{5, 6, 8, 50} {
		counts = append(counts, slices.Repeat([]impl.Register{valid}, count))
	}
	for _, servers := range counts {
		for at := -1; at <= 9; at++ {
			for _, id := range ticketIds {
				expectNoServers(t, servers, at, ticket(id, 20))
			}
		}
	}
	for _, wrong := range invalidRegisters() {
		for count := 1; count <= 4; count++ {
			for place := range count {
				servers := slices.Repeat([]impl.Register{valid}, count)
				servers[place] = wrong
				for at := range count {
					// The home, another server, and the ticket that valid knows.
					expectNoServers(t, servers, at, ticket(at, 20))
					expectNoServers(t, servers, at, ticket(at+1, 20))
					expectNoServers(t, servers, at, ticket(1, 15))
				}
			}
		}
	}
}

func TestPromise74InvalidServerOrTicket(t *testing.T) {
	for _, servers := range serverGroups() {
		for _, at := range outsideFrom(len(servers) - 1) {
			for id := range 8 {
				expectNoServers(t, servers, at, ticket(id, servers[0].Now))
			}
		}
	}
	for count := 1; count <= 4; count++ {
		for _, now := range replayTimes {
			servers := slices.Repeat([]impl.Register{register(now)}, count)
			for _, k := range invalidTickets() {
				for at := -1; at <= count; at++ {
					expectNoServers(t, servers, at, k)
				}
			}
		}
	}
}

func TestPromise75NoServerAgain(t *testing.T) {
	forServers(func(servers []impl.Register, at int, k impl.Ticket) {
		next, ok := impl.ServersTry(servers, at, k)
		if !ok {
			return
		}
		for again := range servers {
			got, ok := impl.ServersTry(next, again, k)
			if ok || !sameRegisters(got, next) {
				t.Fatalf("ServersTry(%v, %d, %v) returned %v, %t", next, again, k, got, ok)
			}
		}
	})
}

// TestPromise75Run presents tickets at random servers whose times go on
// independently. Each ticket is accepted at most once by all of them together.
func TestPromise75Run(t *testing.T) {
	source := rand.New(rand.NewSource(75))
	repeated := 0
	for run := range 60 {
		servers, accepted := make([]impl.Register, 1+run%4), map[impl.Ticket]bool{}
		for range 3000 {
			i := source.Intn(len(servers))
			if source.Intn(8) == 0 {
				servers[i] = ticked(t, servers[i], min(servers[i].Now+source.Intn(4), 999))
			}
			k := ticket(source.Intn(5), min(max(servers[i].Now-source.Intn(16)+2, 0), 999))
			next, ok := presented(t, servers, source.Intn(len(servers)), k)
			if ok && accepted[k] {
				t.Fatalf("%v was accepted twice", k)
			}
			if accepted[k] {
				repeated++
			}
			accepted[k] = accepted[k] || ok
			servers = next
		}
	}
	if repeated < 1000 {
		t.Errorf("only %d accepted tickets were presented again", repeated)
	}
}

func TestPromise76AllServersTwice(t *testing.T) {
	once := 0
	for _, group := range serverGroups() {
		for _, k := range ticketsOf(group) {
			servers, accepted := group, 0
			for i := range 2 * len(group) {
				next, ok := impl.ServersTry(servers, i%len(group), k)
				if ok {
					accepted++
				}
				servers = next
			}
			home := group[k.Id%len(group)]
			want := 0
			if _, ok := expectedTry(home, k); ok {
				want = 1
			}
			if accepted != want {
				t.Fatalf("%d of the servers %v accepted %v", accepted, group, k)
			}
			once += accepted
		}
	}
	if once < 1000 {
		t.Errorf("only %d tickets were accepted", once)
	}
}

func TestPromise77RejectedLeavesServers(t *testing.T) {
	rejected := 0
	forServers(func(servers []impl.Register, at int, k impl.Ticket) {
		got, ok := impl.ServersTry(servers, at, k)
		if ok {
			return
		}
		rejected++
		if !sameRegisters(got, servers) {
			t.Fatalf("ServersTry(%v, %d, %v) returned %v", servers, at, k, got)
		}
	})
	if rejected < 1000 {
		t.Errorf("only %d tickets were rejected", rejected)
	}
}

// withSpareTickets returns a register whose Seen has capacity that is not used.
func withSpareTickets(r impl.Register) impl.Register {
	return register(r.Now, append(make([]impl.Ticket, 0, 12), r.Seen...)...)
}

// ticketMemory returns all tickets in the memory of registers, also those
// beyond the length of a slice.
func ticketMemory(servers []impl.Register) []impl.Ticket {
	all := []impl.Ticket{}
	for _, r := range servers[:cap(servers)] {
		all = append(append(all, ticket(r.Now, len(r.Seen))), r.Seen[:cap(r.Seen)]...)
	}
	return all
}

// overwriteTickets changes everything in the memory of registers.
func overwriteTickets(servers []impl.Register) {
	for i := range servers[:cap(servers)] {
		r := &servers[:cap(servers)][i]
		for j := range r.Seen[:cap(r.Seen)] {
			r.Seen[:cap(r.Seen)][j] = ticket(-7, -7)
		}
		r.Now = -7
	}
}

// replayCalls calls all functions of the chapter and returns the registers
// that they return, as one list for each call.
func replayCalls(servers []impl.Register) [][]impl.Register {
	results := [][]impl.Register{}
	for i, r := range servers {
		impl.RegisterValid(r)
		for _, now := range []int{r.Now, r.Now + 1, r.Now + 5, r.Now + 11} {
			next, _ := impl.RegisterTick(r, now)
			results = append(results, []impl.Register{next})
		}
		for _, k := range []impl.Ticket{ticket(i, 20), ticket(8, 10), ticket(8, 15), ticket(0, 20), ticket(1, 9), ticket(100, 15)} {
			next, _ := impl.RegisterTry(r, k)
			all, _ := impl.ServersTry(servers, i, k)
			results = append(results, []impl.Register{next}, all)
		}
	}
	return results
}

func TestRegistersStayAsTheyAreAndResultsShareNoMemory(t *testing.T) {
	for count := 1; count <= 5; count++ {
		servers := make([]impl.Register, count, 8)
		for i := range servers {
			servers[i] = withSpareTickets(structuredRegisters(20)[i*2])
		}
		// Four servers have an invalid register, and five are too many.
		if count == 4 {
			servers[3] = withSpareTickets(register(20, ticket(2, 15), ticket(1, 15)))
		}
		before := ticketMemory(servers)
		results, again := replayCalls(servers), replayCalls(servers)
		if !slices.Equal(ticketMemory(servers), before) {
			t.Fatalf("the registers became %v", servers)
		}
		for i, r := range results {
			overwriteTickets(r)
			for j, other := range again[i+1:] {
				if !sameRegisters(results[i+1+j], other) {
					t.Fatalf("results %d and %d share memory", i, i+1+j)
				}
			}
		}
		if !slices.Equal(ticketMemory(servers), before) {
			t.Fatalf("results share memory with the registers")
		}
	}
}

func TestRegistersOfOneResultShareNoMemory(t *testing.T) {
	shared := append(make([]impl.Ticket, 0, 12), ticket(1, 15), ticket(2, 15))
	servers := slices.Repeat([]impl.Register{{Now: 20, Seen: shared}}, 4)
	for at := range servers {
		for _, k := range []impl.Ticket{ticket(1, 15), ticket(4+at, 16), ticket(5, 16)} {
			want, _ := presented(t, servers, at, k)
			for i := range servers {
				got, _ := impl.ServersTry(servers, at, k)
				overwriteTickets(got[i : i+1 : i+1])
				for j := range got {
					if i != j && !sameRegister(got[j], want[j]) {
						t.Fatalf("registers %d and %d of a result share memory", i, j)
					}
				}
			}
		}
	}
	if !slices.Equal(shared[:cap(shared)], append([]impl.Ticket{ticket(1, 15), ticket(2, 15)}, make([]impl.Ticket, 10)...)) {
		t.Errorf("the shared tickets became %v", shared[:cap(shared)])
	}
}
