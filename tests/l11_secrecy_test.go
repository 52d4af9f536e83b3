package tests

import (
	"math"
	"math/rand"
	"slices"
	"testing"

	"loop.example/multipathtransport/impl"
)

// secrets are the arguments that all functions of the chapter share.
type secrets struct {
	boxes []impl.Box
	known []int
}

func box(key int, inside ...int) impl.Box {
	return impl.Box{Key: key, Inside: inside}
}

func boxes(list ...impl.Box) []impl.Box {
	return list
}

// chainOf returns count boxes, each of which has the key of the next one
// inside. The first key is first, and all later ones are one more.
func chainOf(count int, first int) []impl.Box {
	list := []impl.Box{}
	for i := range count {
		list = append(list, box(first+i, first+i+1))
	}
	return list
}

// ringOf returns count boxes, each of which has the key of the next one
// inside, and the last one that of the first one.
func ringOf(count int, first int) []impl.Box {
	list := chainOf(count, first)
	list[count-1].Inside[0] = first
	return list
}

func reversedBoxes(list []impl.Box) []impl.Box {
	reversed := slices.Clone(list)
	slices.Reverse(reversed)
	return reversed
}

// closedUnder reports whether a set of atoms contains what is inside of every
// box whose key it contains.
func closedUnder(list []impl.Box, set map[int]bool) bool {
	for _, b := range list {
		for _, atom := range b.Inside {
			if set[b.Key] && !set[atom] {
				return false
			}
		}
	}
	return true
}

// closedSetOf returns the smallest set of atoms that contains the known ones
// and is closed under all boxes. It adds one atom at a time.
func closedSetOf(s secrets) map[int]bool {
	set := map[int]bool{}
	for _, atom := range s.known {
		set[atom] = true
	}
	for !closedUnder(s.boxes, set) {
		for _, b := range s.boxes {
			i := slices.IndexFunc(b.Inside, func(atom int) bool { return !set[atom] })
			if set[b.Key] && i >= 0 {
				set[b.Inside[i]] = true
				break
			}
		}
	}
	return set
}

// ascendingAtoms returns the elements of a set of atoms.
func ascendingAtoms(set map[int]bool) []int {
	list := []int{}
	for atom := 1; atom <= 20; atom++ {
		if set[atom] {
			list = append(list, atom)
		}
	}
	return list
}

func expectedDerived(s secrets) []int {
	return ascendingAtoms(closedSetOf(s))
}

func boxesWithoutKey(list []impl.Box, key int) []impl.Box {
	rest := []impl.Box{}
	for _, b := range list {
		if b.Key != key {
			rest = append(rest, b)
		}
	}
	return rest
}

func expectedGuards(s secrets, atom int) []int {
	guards := map[int]bool{}
	for _, b := range s.boxes {
		rest := secrets{boxesWithoutKey(s.boxes, b.Key), s.known}
		if closedSetOf(s)[atom] && !closedSetOf(rest)[atom] {
			guards[b.Key] = true
		}
	}
	return ascendingAtoms(guards)
}

func expectedOpened(s secrets) []int {
	indexes := []int{}
	for i, b := range s.boxes {
		if closedSetOf(s)[b.Key] {
			indexes = append(indexes, i)
		}
	}
	return indexes
}

func containsAll(list []int, atoms []int) bool {
	for _, atom := range atoms {
		if !slices.Contains(list, atom) {
			return false
		}
	}
	return true
}

func isAscending(list []int) bool {
	for i := 1; i < len(list); i++ {
		if list[i-1] >= list[i] {
			return false
		}
	}
	return true
}

// allAtoms returns the atoms from 1 to MaxAtom.
func allAtoms() []int {
	list := []int{}
	for atom := 1; atom <= 20; atom++ {
		list = append(list, atom)
	}
	return list
}

// edgeSecrets are the arguments that the document and the promises name.
func edgeSecrets() []secrets {
	full := []impl.Box{}
	for i := range 10 {
		full = append(full, box(i+1, i+2, i+3, i+4, i+5))
	}
	descending := allAtoms()
	slices.Reverse(descending)
	return []secrets{
		{nil, nil},
		{nil, []int{1}},
		{nil, []int{20, 1}},
		{nil, allAtoms()},
		{nil, descending},
		{nil, slices.Repeat([]int{20}, 20)},
		{boxes(box(1, 20)), []int{1}},
		{boxes(box(20, 1)), []int{20}},
		{boxes(box(20, 1)), []int{1}},
		{boxes(box(1, 2, 3, 4, 5)), []int{1}},
		{boxes(box(1, 2, 2, 2, 2)), []int{1, 1}},
		{boxes(box(1, 1)), nil},
		{boxes(box(1, 1)), []int{1}},
		{boxes(box(1, 1, 2)), []int{1}},
		{boxes(box(1, 1, 2)), []int{2}},
		{boxes(box(1, 2), box(2, 1)), nil},
		{boxes(box(1, 2), box(2, 1)), []int{1}},
		{boxes(box(1, 2), box(2, 1)), []int{2}},
		{boxes(box(1, 2, 3), box(2, 1, 4), box(5, 1)), []int{5}},
		{chainOf(10, 1), []int{1}},
		{chainOf(10, 11)[:9], []int{11}},
		{chainOf(10, 1), []int{5}},
		{chainOf(10, 1), nil},
		{reversedBoxes(chainOf(10, 1)), []int{1}},
		{reversedBoxes(chainOf(10, 1)), []int{10, 3, 10}},
		{ringOf(10, 11), nil},
		{ringOf(10, 11), []int{1, 2, 3}},
		{ringOf(10, 11), []int{20}},
		{reversedBoxes(ringOf(10, 11)), []int{15}},
		{boxes(box(1, 2), box(1, 3), box(1, 4)), []int{1}},
		{boxes(box(1, 2), box(1, 2), box(1, 2)), []int{1}},
		{boxes(box(1, 3), box(2, 3)), []int{1, 2}},
		{boxes(box(1, 3), box(2, 3)), []int{2}},
		{boxes(box(1, 3), box(2, 3)), []int{3}},
		{boxes(box(1, 3), box(2, 3)), []int{4}},
		{boxes(box(1, 2), box(1, 3), box(2, 4), box(3, 4), box(4, 5)), []int{1}},
		{full, []int{1}},
		{full, nil},
		{full, allAtoms()},
		{reversedBoxes(full), []int{1}},
	}
}

// randomSecrets returns valid arguments with atoms up to limit.
func randomSecrets(random *rand.Rand, limit int) secrets {
	s := secrets{}
	for range random.Intn(11) {
		b := box(1 + random.Intn(limit))
		for range 1 + random.Intn(4) {
			b.Inside = append(b.Inside, 1+random.Intn(limit))
		}
		s.boxes = append(s.boxes, b)
	}
	for range random.Intn(4) {
		s.known = append(s.known, 1+random.Intn(limit))
	}
	return s
}

// sampleSecrets returns the edges, and random arguments in which boxes have
// few atoms, so that many of them can be opened, or many.
func sampleSecrets() []secrets {
	list := edgeSecrets()
	random := rand.New(rand.NewSource(11))
	for _, limit := range []int{3, 6, 10, 15, 20} {
		for range 60 {
			list = append(list, randomSecrets(random, limit))
		}
	}
	return list
}

// smallSecrets calls check with all lists of up to two boxes, and with all
// known atoms, if there are no other atoms than 1, 2 and 20.
func smallSecrets(check func(s secrets)) {
	subsets := [][]int{}
	for bits := range 8 {
		subset := []int{}
		for i, atom := range []int{1, 2, 20} {
			if bits>>i&1 == 1 {
				subset = append(subset, atom)
			}
		}
		subsets = append(subsets, subset)
	}
	single := [][]impl.Box{nil}
	for _, key := range []int{1, 2, 20} {
		for _, inside := range subsets[1:] {
			single = append(single, boxes(box(key, inside...)))
		}
	}
	for _, known := range subsets {
		for _, first := range single {
			for _, second := range single {
				check(secrets{slices.Concat(first, second), known})
			}
		}
	}
}

// checkSecrets compares all functions of the chapter with what is expected.
func checkSecrets(t *testing.T, s secrets) {
	t.Helper()
	want := expectedDerived(s)
	if !impl.BoxesValid(s.boxes) {
		t.Fatalf("BoxesValid(%v) fails", s.boxes)
	}
	if got := impl.Derive(s.boxes, s.known); !slices.Equal(got, want) {
		t.Errorf("Derive(%v, %v) is %v, not %v", s.boxes, s.known, got, want)
	}
	if got, opened := impl.Opened(s.boxes, s.known), expectedOpened(s); !slices.Equal(got, opened) {
		t.Errorf("Opened(%v, %v) is %v, not %v", s.boxes, s.known, got, opened)
	}
	for atom := -1; atom <= 22; atom++ {
		if got := impl.Derivable(s.boxes, s.known, atom); got != slices.Contains(want, atom) {
			t.Errorf("Derivable(%v, %v, %d) is %v", s.boxes, s.known, atom, got)
		}
		if got, guards := impl.Guards(s.boxes, s.known, atom), expectedGuards(s, atom); !slices.Equal(got, guards) {
			t.Errorf("Guards(%v, %v, %d) is %v, not %v", s.boxes, s.known, atom, got, guards)
		}
	}
}

func TestSecretsAreAsExpected(t *testing.T) {
	for _, s := range sampleSecrets() {
		checkSecrets(t, s)
	}
	smallSecrets(func(s secrets) { checkSecrets(t, s) })
}

func TestSecrecyExamples(t *testing.T) {
	ring := ringOf(10, 11)
	diamond := boxes(box(1, 2), box(1, 3), box(2, 4), box(3, 4), box(4, 5))
	for _, c := range []struct {
		boxes           []impl.Box
		known           []int
		derived, opened []int
		atom            int
		guards          []int
	}{
		{boxes(box(1, 2), box(2, 3)), []int{1}, []int{1, 2, 3}, []int{0, 1}, 3, []int{1, 2}},
		{boxes(box(1, 2), box(2, 3)), []int{2}, []int{2, 3}, []int{1}, 3, []int{2}},
		{boxes(box(2, 3), box(1, 2)), []int{1}, []int{1, 2, 3}, []int{0, 1}, 3, []int{1, 2}},
		{boxes(box(20, 1, 1)), []int{20, 20}, []int{1, 20}, []int{0}, 1, []int{20}},
		{boxes(box(1, 20)), []int{20}, []int{20}, nil, 20, nil},
		{boxes(box(7, 7)), nil, nil, nil, 7, nil},
		{boxes(box(7, 7, 8)), []int{7}, []int{7, 8}, []int{0}, 8, []int{7}},
		{boxes(box(7, 7, 8)), []int{7}, []int{7, 8}, []int{0}, 7, nil},
		{boxes(box(1, 2), box(2, 1)), nil, nil, nil, 1, nil},
		{boxes(box(1, 2), box(2, 1)), []int{2}, []int{1, 2}, []int{0, 1}, 1, []int{2}},
		{boxes(box(1, 3), box(2, 3)), []int{1, 2}, []int{1, 2, 3}, []int{0, 1}, 3, nil},
		{boxes(box(1, 3), box(2, 3)), []int{1}, []int{1, 3}, []int{0}, 3, []int{1}},
		{boxes(box(1, 3), box(1, 3)), []int{1}, []int{1, 3}, []int{0, 1}, 3, []int{1}},
		{boxes(box(1, 3), box(2, 3)), []int{1, 3}, []int{1, 3}, []int{0}, 3, nil},
		{ring, nil, nil, nil, 11, nil},
		{ring, []int{13}, []int{11, 12, 13, 14, 15, 16, 17, 18, 19, 20}, []int{0, 1, 2, 3, 4, 5, 6, 7, 8, 9}, 11, []int{13, 14, 15, 16, 17, 18, 19, 20}},
		{diamond, []int{1}, []int{1, 2, 3, 4, 5}, []int{0, 1, 2, 3, 4}, 5, []int{1, 4}},
		{diamond, []int{3, 2}, []int{2, 3, 4, 5}, []int{2, 3, 4}, 4, nil},
		{diamond, []int{1}, []int{1, 2, 3, 4, 5}, []int{0, 1, 2, 3, 4}, 6, nil},
	} {
		if got := impl.Derive(c.boxes, c.known); !slices.Equal(got, c.derived) {
			t.Errorf("Derive(%v, %v) is %v, not %v", c.boxes, c.known, got, c.derived)
		}
		if got := impl.Opened(c.boxes, c.known); !slices.Equal(got, c.opened) {
			t.Errorf("Opened(%v, %v) is %v, not %v", c.boxes, c.known, got, c.opened)
		}
		if got := impl.Derivable(c.boxes, c.known, c.atom); got != slices.Contains(c.derived, c.atom) {
			t.Errorf("Derivable(%v, %v, %d) is %v", c.boxes, c.known, c.atom, got)
		}
		if got := impl.Guards(c.boxes, c.known, c.atom); !slices.Equal(got, c.guards) {
			t.Errorf("Guards(%v, %v, %d) is %v, not %v", c.boxes, c.known, c.atom, got, c.guards)
		}
	}
}

func TestPromise44DeriveContainsKnownAtomsAndOpenedBoxes(t *testing.T) {
	for _, s := range sampleSecrets() {
		got := impl.Derive(s.boxes, s.known)
		if !containsAll(got, s.known) {
			t.Errorf("Derive(%v, %v) is %v, without known atoms", s.boxes, s.known, got)
		}
		for _, b := range s.boxes {
			if slices.Contains(got, b.Key) && !containsAll(got, b.Inside) {
				t.Errorf("Derive(%v, %v) is %v, without what is in the box %v", s.boxes, s.known, got, b)
			}
		}
	}
}

func TestPromise45DerivedAtomsAreKnownOrInOpenedBoxes(t *testing.T) {
	for _, s := range sampleSecrets() {
		got := impl.Derive(s.boxes, s.known)
		for _, atom := range got {
			source := func(b impl.Box) bool {
				return slices.Contains(b.Inside, atom) && slices.Contains(got, b.Key)
			}
			if !slices.Contains(s.known, atom) && !slices.ContainsFunc(s.boxes, source) {
				t.Errorf("Derive(%v, %v) contains %d, which has no source", s.boxes, s.known, atom)
			}
		}
		if !isAscending(got) {
			t.Errorf("Derive(%v, %v) is %v, not ascending", s.boxes, s.known, got)
		}
	}
	// Boxes that only open each other give nothing, although each of their
	// atoms is in a box.
	for count := 1; count <= 10; count++ {
		if got := impl.Derive(ringOf(count, 3), []int{1, 2, 20}); !slices.Equal(got, []int{1, 2, 20}) {
			t.Errorf("a ring of %d boxes gives %v", count, got)
		}
	}
}

func TestPromise46MoreKnownAtomsDeriveMore(t *testing.T) {
	for _, s := range sampleSecrets() {
		if len(s.known) == 20 {
			continue
		}
		before := impl.Derive(s.boxes, s.known)
		for atom := 1; atom <= 20; atom++ {
			got := impl.Derive(s.boxes, append(slices.Clone(s.known), atom))
			if !containsAll(got, before) || !slices.Contains(got, atom) {
				t.Errorf("Derive(%v, %v and %d) is %v, without some of %v", s.boxes, s.known, atom, got, before)
			}
		}
	}
}

func TestPromise47FewerBoxesDeriveLess(t *testing.T) {
	for _, s := range sampleSecrets() {
		all := impl.Derive(s.boxes, s.known)
		for i := range s.boxes {
			got := impl.Derive(slices.Delete(slices.Clone(s.boxes), i, i+1), s.known)
			if !containsAll(all, got) || !containsAll(got, s.known) {
				t.Errorf("Derive(%v, %v) without box %d is %v", s.boxes, s.known, i, got)
			}
		}
	}
}

func TestPromise48DerivingAgainAddsNothing(t *testing.T) {
	for _, s := range sampleSecrets() {
		once := impl.Derive(s.boxes, s.known)
		if twice := impl.Derive(s.boxes, once); !slices.Equal(once, twice) {
			t.Errorf("Derive(%v, %v) is %v, and once more %v", s.boxes, s.known, once, twice)
		}
	}
	list := reversedBoxes(chainOf(10, 1))
	if got := impl.Derive(list, impl.Derive(list, []int{1})); len(got) != 11 {
		t.Errorf("Derive of a chain of 10 boxes, applied twice, is %v", got)
	}
}

func TestPromise49OrderOfBoxesAndKnownAtomsDoesNotMatter(t *testing.T) {
	random := rand.New(rand.NewSource(49))
	for _, s := range sampleSecrets() {
		want := expectedDerived(s)
		if got := impl.Derive(reversedBoxes(s.boxes), s.known); !slices.Equal(got, want) {
			t.Errorf("Derive(%v in reverse order, %v) is %v, not %v", s.boxes, s.known, got, want)
		}
		list, known := slices.Clone(s.boxes), slices.Clone(s.known)
		random.Shuffle(len(list), func(i, j int) { list[i], list[j] = list[j], list[i] })
		random.Shuffle(len(known), func(i, j int) { known[i], known[j] = known[j], known[i] })
		if got := impl.Derive(list, known); !slices.Equal(got, want) {
			t.Errorf("Derive(%v, %v) is %v, not %v", list, known, got, want)
		}
	}
}

func TestPromise50DerivableIfDerived(t *testing.T) {
	for _, s := range sampleSecrets() {
		derived := impl.Derive(s.boxes, s.known)
		for atom := -2; atom <= 23; atom++ {
			if got := impl.Derivable(s.boxes, s.known, atom); got != slices.Contains(derived, atom) {
				t.Errorf("Derivable(%v, %v, %d) is %v", s.boxes, s.known, atom, got)
			}
		}
	}
}

func TestPromise51OpenedBoxesHaveDerivableKeys(t *testing.T) {
	for _, s := range sampleSecrets() {
		derived, opened := impl.Derive(s.boxes, s.known), impl.Opened(s.boxes, s.known)
		alone := []impl.Box{}
		for i, b := range s.boxes {
			if slices.Contains(opened, i) != slices.Contains(derived, b.Key) {
				t.Errorf("Opened(%v, %v) is %v", s.boxes, s.known, opened)
			}
			if slices.Contains(opened, i) {
				alone = append(alone, b)
			}
		}
		if len(alone) != len(opened) || !isAscending(opened) {
			t.Errorf("Opened(%v, %v) is %v", s.boxes, s.known, opened)
		}
		if got := impl.Derive(alone, s.known); !slices.Equal(got, derived) {
			t.Errorf("Derive(%v, %v) is %v, and %v with the opened boxes alone", s.boxes, s.known, derived, got)
		}
	}
}

func TestPromise52AtomsAreNotDerivableWithoutTheirGuards(t *testing.T) {
	for _, s := range sampleSecrets() {
		for atom := 1; atom <= 20; atom++ {
			guards := impl.Guards(s.boxes, s.known, atom)
			if !isAscending(guards) {
				t.Errorf("Guards(%v, %v, %d) is %v, not ascending", s.boxes, s.known, atom, guards)
			}
			for key := 0; key <= 21; key++ {
				without := impl.Derivable(boxesWithoutKey(s.boxes, key), s.known, atom)
				want := impl.Derivable(s.boxes, s.known, atom) && !without
				if slices.Contains(guards, key) != want {
					t.Errorf("Guards(%v, %v, %d) is %v, wrong for %d", s.boxes, s.known, atom, guards, key)
				}
			}
		}
	}
}

func TestPromise53GuardsAreDerivableAndKnownAtomsHaveNone(t *testing.T) {
	for _, s := range sampleSecrets() {
		derived := impl.Derive(s.boxes, s.known)
		for atom := 1; atom <= 20; atom++ {
			guards := impl.Guards(s.boxes, s.known, atom)
			if slices.Contains(s.known, atom) && len(guards) > 0 {
				t.Errorf("Guards(%v, %v, %d) is %v for a known atom", s.boxes, s.known, atom, guards)
			}
			if !containsAll(derived, guards) {
				t.Errorf("Guards(%v, %v, %d) is %v, of which not all are derivable", s.boxes, s.known, atom, guards)
			}
		}
	}
}

func TestPromise54WithoutAKeyOnlyKnownAtomsAreDerived(t *testing.T) {
	for _, s := range sampleSecrets() {
		known := slices.DeleteFunc(allAtoms(), func(atom int) bool {
			return slices.ContainsFunc(s.boxes, func(b impl.Box) bool { return b.Key == atom })
		})
		for size := range len(known) + 1 {
			given := append(slices.Clone(known[:size]), known[:min(size, 20-size)]...)
			slices.Reverse(given)
			if got := impl.Derive(s.boxes, given); !slices.Equal(got, known[:size]) {
				t.Errorf("Derive(%v, %v) is %v, not %v", s.boxes, given, got, known[:size])
			}
			if got := impl.Opened(s.boxes, given); len(got) != 0 {
				t.Errorf("Opened(%v, %v) is %v, not empty", s.boxes, given, got)
			}
		}
	}
}

func TestPromise55BothKnownListsTogetherDeriveMore(t *testing.T) {
	samples := sampleSecrets()
	for i, s := range samples {
		other := samples[(i+7)%len(samples)].known
		if len(s.known)+len(other) > 20 {
			continue
		}
		both := impl.Derive(s.boxes, slices.Concat(s.known, other))
		for _, known := range [][]int{s.known, other} {
			if part := impl.Derive(s.boxes, known); !containsAll(both, part) {
				t.Errorf("Derive(%v, %v and %v) is %v, without some of %v", s.boxes, s.known, other, both, part)
			}
		}
	}
}

func TestBoxesValid(t *testing.T) {
	for _, s := range sampleSecrets() {
		if !impl.BoxesValid(s.boxes) {
			t.Errorf("BoxesValid(%v) fails", s.boxes)
		}
	}
	for size := range 14 {
		list := slices.Repeat(boxes(box(1, 2)), size)
		if got := impl.BoxesValid(list); got != (size <= 10) {
			t.Errorf("BoxesValid of %d boxes is %v", size, got)
		}
		inside := slices.Repeat([]int{20}, size)
		if got := impl.BoxesValid(boxes(box(1, inside...))); got != (size >= 1 && size <= 4) {
			t.Errorf("BoxesValid of a box with %d atoms is %v", size, got)
		}
	}
	for n := -3; n <= 30; n++ {
		want := n >= 1 && n <= 20
		if got := impl.BoxesValid(boxes(box(n, 1))); got != want {
			t.Errorf("BoxesValid of a box with key %d is %v", n, got)
		}
		for position := range 4 {
			inside := []int{1, 2, 3, 4}
			inside[position] = n
			if got := impl.BoxesValid(boxes(box(1, 1), box(2, inside...))); got != want {
				t.Errorf("BoxesValid of a box with %v is %v", inside, got)
			}
		}
	}
}

// invalidBoxes returns lists of boxes that are not valid. With the key 1, all
// other boxes would give the atom 2.
func invalidBoxes() [][]impl.Box {
	bad := []impl.Box{box(1), {Key: 1, Inside: []int{}}, box(3), box(1, 2, 3, 4, 5, 6), box(1, 2, 2, 2, 2, 2), {}}
	for _, n := range notAtoms() {
		bad = append(bad, box(n, 2), box(1, n), box(3, n), box(1, 2, n), box(1, n, 2), box(1, 2, 3, 4, n))
	}
	lists := [][]impl.Box{}
	for _, b := range bad {
		lists = append(lists, boxes(b), boxes(b, box(1, 2)), boxes(box(1, 2), b), boxes(box(1, 2), b, box(2, 3)))
		lists = append(lists, append(slices.Repeat(boxes(box(1, 2)), 9), b))
	}
	for _, size := range []int{11, 12, 100} {
		lists = append(lists, slices.Repeat(boxes(box(1, 2)), size))
	}
	return lists
}

func notAtoms() []int {
	return []int{0, -1, -20, 21, 22, 33, 64, 100, math.MinInt, math.MaxInt}
}

// invalidKnown returns known atoms that are not valid. All contain 1.
func invalidKnown() [][]int {
	lists := [][]int{append(allAtoms(), 1), slices.Repeat([]int{1}, 21), slices.Repeat([]int{1}, 300)}
	for _, n := range notAtoms() {
		lists = append(lists, []int{n, 1}, []int{1, n}, []int{1, 2, n, 3}, append(slices.Repeat([]int{1}, 19), n))
	}
	return lists
}

// expectNoSecrets checks that all functions return what they return for
// arguments that are not valid.
func expectNoSecrets(t *testing.T, s secrets) {
	t.Helper()
	if got := impl.Derive(s.boxes, s.known); len(got) != 0 {
		t.Errorf("Derive(%v, %v) is %v, not empty", s.boxes, s.known, got)
	}
	if got := impl.Opened(s.boxes, s.known); len(got) != 0 {
		t.Errorf("Opened(%v, %v) is %v, not empty", s.boxes, s.known, got)
	}
	for _, atom := range append(allAtoms(), notAtoms()...) {
		if impl.Derivable(s.boxes, s.known, atom) {
			t.Errorf("Derivable(%v, %v, %d) holds", s.boxes, s.known, atom)
		}
		if got := impl.Guards(s.boxes, s.known, atom); len(got) != 0 {
			t.Errorf("Guards(%v, %v, %d) is %v, not empty", s.boxes, s.known, atom, got)
		}
	}
}

func TestInvalidBoxesGiveNothing(t *testing.T) {
	for _, list := range invalidBoxes() {
		if impl.BoxesValid(list) {
			t.Errorf("BoxesValid(%v) holds", list)
		}
		for _, known := range [][]int{nil, {1}, {2, 1}, allAtoms()} {
			expectNoSecrets(t, secrets{list, known})
		}
	}
}

func TestInvalidKnownAtomsGiveNothing(t *testing.T) {
	for _, known := range invalidKnown() {
		for _, list := range [][]impl.Box{nil, boxes(box(1, 2)), chainOf(10, 1), ringOf(10, 1)} {
			expectNoSecrets(t, secrets{list, known})
		}
	}
	for _, list := range invalidBoxes()[:20] {
		for _, known := range invalidKnown() {
			expectNoSecrets(t, secrets{list, known})
		}
	}
}

func TestWhatIsNoAtomIsNotDerivable(t *testing.T) {
	for _, s := range edgeSecrets() {
		for _, n := range notAtoms() {
			if impl.Derivable(s.boxes, s.known, n) {
				t.Errorf("Derivable(%v, %v, %d) holds", s.boxes, s.known, n)
			}
			if got := impl.Guards(s.boxes, s.known, n); len(got) != 0 {
				t.Errorf("Guards(%v, %v, %d) is %v, not empty", s.boxes, s.known, n, got)
			}
		}
	}
}

// spareAtoms returns a list with these atoms and spare capacity.
func spareAtoms(list ...int) []int {
	return append(make([]int, 0, len(list)+5), list...)
}

// memoryOf returns a copy of all memory of s, with the spare capacity.
func memoryOf(s secrets) []int {
	all := slices.Clone(s.known[:cap(s.known)])
	for _, b := range s.boxes[:cap(s.boxes)] {
		all = append(append(all, b.Key, len(b.Inside)), b.Inside[:cap(b.Inside)]...)
	}
	return all
}

// secretCalls calls all functions of the chapter and returns the slices that
// they return.
func secretCalls(s secrets) [][]int {
	impl.BoxesValid(s.boxes)
	impl.Derivable(s.boxes, s.known, 3)
	return [][]int{
		impl.Derive(s.boxes, s.known),
		impl.Opened(s.boxes, s.known),
		impl.Guards(s.boxes, s.known, 4),
		impl.Guards(s.boxes, s.known, 1),
	}
}

func TestSecretsStayAsTheyAreAndResultsShareNoMemory(t *testing.T) {
	list := append(make([]impl.Box, 0, 12), box(3, spareAtoms(4, 2)...), box(2, spareAtoms(3)...), box(1, spareAtoms(2, 1)...))
	for _, known := range [][]int{spareAtoms(1), spareAtoms(4, 3, 2, 1), spareAtoms(2, 2), spareAtoms(), spareAtoms(21)} {
		s := secrets{list, known}
		before := memoryOf(s)
		first, second := secretCalls(s), secretCalls(s)
		for i, result := range first {
			want := slices.Clone(second[i])
			for j := range result[:cap(result)] {
				result[:cap(result)][j] = -7
			}
			if !slices.Equal(second[i], want) || !slices.Equal(secretCalls(s)[i], want) {
				t.Errorf("two results share memory: %v, %v", result, second[i])
			}
		}
		if !slices.Equal(memoryOf(s), before) {
			t.Errorf("an argument was changed, or shares memory with a result: %v", s)
		}
	}
}
