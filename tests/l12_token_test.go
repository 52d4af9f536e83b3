package tests

import (
	"math"
	"math/rand"
	"slices"
	"testing"

	"loop.example/multipathtransport/impl"
)

// The tokens of the tests: secrets, addresses and times at the ends of their
// ranges, next to them, and between.
var (
	tokenSecrets   = []int{0, 1, 2, 31, 48, 95, 96}
	tokenAddresses = []int{1, 2, 3, 50, 98, 99}
	tokenTimes     = []int{0, 1, 2, 19, 20, 21, 22, 500, 977, 978, 979, 980, 998, 999}
)

// allowanceCounts are numbers of bytes at the ends of their range, and next to
// those of which three times is MaxBytes, or was sent in the examples.
var allowanceCounts = []int{
	0, 1, 2, 3, 4, 5, 6, 7, 33, 99, 100, 101, 299, 300, 301, 1000, 1111, 3000, 3331, 3332, 3333, 3334, 3335,
	5000, 6665, 6666, 6667, 9995, 9996, 9997, 9998, 9999,
}

func token(address int, time int, tag int) impl.Token {
	return impl.Token{Address: address, Time: time, Tag: tag}
}

// tagOf is the formula of the specification, for all arguments, so that tokens
// can be forged for which only a range is wrong.
func tagOf(secret int, address int, time int) int {
	n := secret + 1
	n = (n*n + secret*address + 7*time + 11*address) % 997
	n = (n*n + secret*address + 7*time + 11*address + 1) % 997
	n = (n*n + secret*address + 7*time + 11*address + 2) % 997
	return n
}

// madeToken returns a token, and fails the test if there is none.
func madeToken(t *testing.T, secret int, address int, time int) impl.Token {
	t.Helper()
	made, ok := impl.TokenMake(secret, address, time)
	if !ok {
		t.Fatalf("TokenMake(%d, %d, %d) failed", secret, address, time)
	}
	return made
}

func expectNoToken(t *testing.T, secret int, address int, time int) {
	t.Helper()
	made, ok := impl.TokenMake(secret, address, time)
	if ok || made != (impl.Token{}) {
		t.Errorf("TokenMake(%d, %d, %d) returned %v, %t", secret, address, time, made, ok)
	}
}

func expectAccept(t *testing.T, secret int, k impl.Token, address int, now int, want bool) {
	t.Helper()
	if impl.TokenAccept(secret, k, address, now) != want {
		t.Fatalf("TokenAccept(%d, %+v, %d, %d) returned %t", secret, k, address, now, !want)
	}
}

func expectAllowance(t *testing.T, received int, sent int, validated bool, want int) {
	t.Helper()
	if got := impl.SendAllowance(received, sent, validated); got != want {
		t.Fatalf("SendAllowance(%d, %d, %t) returned %d, want %d", received, sent, validated, got, want)
	}
}

// forAllTokens calls check for all arguments of TokenMake that are in range.
func forAllTokens(check func(secret int, address int, time int)) {
	for secret := 0; secret <= 96; secret++ {
		for address := 1; address <= 99; address++ {
			for time := 0; time <= 999; time++ {
				check(secret, address, time)
			}
		}
	}
}

// forSampleTokens calls check for all sample secrets, addresses and times.
func forSampleTokens(check func(secret int, address int, time int)) {
	for _, secret := range tokenSecrets {
		for _, address := range tokenAddresses {
			for _, time := range tokenTimes {
				check(secret, address, time)
			}
		}
	}
}

// forAllowances calls check for all valid numbers of bytes of which at least
// one is a sample, with a validated and a not validated address.
func forAllowances(check func(received int, sent int, validated bool)) {
	for _, sample := range allowanceCounts {
		for n := 0; n <= 9999; n++ {
			for _, validated := range []bool{false, true} {
				check(sample, n, validated)
				check(n, sample, validated)
			}
		}
	}
}

// forInvalidAllowances calls check with at least one number of bytes that is
// out of range.
func forInvalidAllowances(check func(received int, sent int, validated bool)) {
	invalid := outsideFrom(9999)
	for _, wrong := range invalid {
		for _, other := range slices.Concat(allowanceCounts, invalid) {
			for _, validated := range []bool{false, true} {
				check(wrong, other, validated)
				check(other, wrong, validated)
			}
		}
	}
}

// expectedAllowance returns how far sent is below what may be sent altogether.
func expectedAllowance(received int, sent int, validated bool) int {
	total := 3 * received
	if validated || total > 9999 {
		total = 9999
	}
	if sent > total {
		return 0
	}
	return total - sent
}

func TestPromise56TokenExamples(t *testing.T) {
	made := madeToken(t, 3, 7, 10)
	for now, want := range map[int]bool{0: false, 9: false, 10: true, 11: true, 29: true, 30: true, 31: false, 999: false} {
		expectAccept(t, 3, made, 7, now, want)
	}
	// At the ends of all ranges.
	expectAccept(t, 0, token(1, 0, 421), 1, 0, true)
	expectAccept(t, 0, token(1, 0, 421), 1, 20, true)
	expectAccept(t, 0, token(1, 0, 421), 1, 21, false)
	expectAccept(t, 0, token(1, 0, 421), 1, -1, false)
	expectAccept(t, 96, token(99, 999, 824), 99, 999, true)
	expectAccept(t, 96, token(99, 999, 824), 99, 998, false)
	// The life of these reaches to MaxTime, or beyond it.
	for _, time := range []int{978, 979, 980, 981, 998} {
		late := madeToken(t, 41, 58, time)
		expectAccept(t, 41, late, 58, 999, time >= 979)
		expectAccept(t, 41, late, 58, 1000, false)
		expectAccept(t, 41, late, 58, time, true)
		expectAccept(t, 41, late, 58, time-1, false)
	}
}

func TestPromise56AllTokens(t *testing.T) {
	forAllTokens(func(secret int, address int, time int) {
		made, _ := impl.TokenMake(secret, address, time)
		for _, now := range []int{time - 1, time, time + 1, time + 20, time + 21, 999, 1000} {
			want := time <= now && now <= time+20 && now <= 999
			if impl.TokenAccept(secret, made, address, now) != want {
				t.Fatalf("TokenAccept(%d, %+v, %d, %d) returned %t", secret, made, address, now, !want)
			}
		}
	})
}

func TestPromise56AllTimes(t *testing.T) {
	for _, secret := range []int{0, 57, 96} {
		for _, address := range []int{1, 23, 99} {
			for time := 0; time <= 999; time++ {
				made := madeToken(t, secret, address, time)
				for now := -30; now <= 1030; now++ {
					expectAccept(t, secret, made, address, now, time <= now && now <= min(time+20, 999))
				}
			}
		}
	}
}

func TestPromise56InvalidNow(t *testing.T) {
	forSampleTokens(func(secret int, address int, time int) {
		made := madeToken(t, secret, address, time)
		for _, now := range outsideFrom(999) {
			expectAccept(t, secret, made, address, now, false)
			// A token of that time would be neither old nor of the future.
			expectAccept(t, secret, token(address, now, tagOf(secret, address, now)), address, now, false)
		}
	})
}

func TestPromise56InvalidSecretOrAddress(t *testing.T) {
	forSampleTokens(func(secret int, address int, time int) {
		for _, wrong := range outsideFrom(96) {
			expectAccept(t, wrong, token(address, time, tagOf(wrong, address, time)), address, time, false)
			expectAccept(t, wrong, madeToken(t, secret, address, time), address, time, false)
			expectAccept(t, wrong, impl.Token{}, address, time, false)
		}
		for _, wrong := range append(outsideFrom(99), 0) {
			expectAccept(t, secret, token(wrong, time, tagOf(secret, wrong, time)), wrong, time, false)
			expectAccept(t, secret, madeToken(t, secret, address, time), wrong, time, false)
			expectAccept(t, secret, impl.Token{}, wrong, time, false)
		}
	})
}

func TestPromise57AllPairsOfAddresses(t *testing.T) {
	sameTags := 0
	for secret := 0; secret <= 96; secret++ {
		for _, time := range []int{0, 480, 999} {
			for address := 1; address <= 99; address++ {
				made := madeToken(t, secret, address, time)
				for other := 1; other <= 99; other++ {
					expectAccept(t, secret, made, other, time, other == address)
					if other != address && made.Tag == tagOf(secret, other, time) {
						sameTags++
					}
				}
			}
		}
	}
	// Only these show that the addresses themselves are compared.
	if sameTags == 0 {
		t.Error("no two addresses have the same tag")
	}
}

func TestPromise57SameTag(t *testing.T) {
	found := false
	for other := 2; other <= 99; other++ {
		for time := 0; time <= 999; time++ {
			made := madeToken(t, 0, other, time)
			if made.Tag != madeToken(t, 0, 1, time).Tag {
				continue
			}
			found = true
			expectAccept(t, 0, made, other, time, true)
			expectAccept(t, 0, made, 1, time, false)
			expectAccept(t, 0, token(1, time, made.Tag), 1, time, true)
			expectAccept(t, 0, token(1, time, made.Tag), other, time, false)
		}
	}
	if !found {
		t.Error("no address has the same tag as address 1")
	}
}

func TestPromise58OtherTag(t *testing.T) {
	forSampleTokens(func(secret int, address int, time int) {
		right := tagOf(secret, address, time)
		for tag := -1000; tag <= 2000; tag++ {
			expectAccept(t, secret, token(address, time, tag), address, time, tag == right)
		}
		for _, tag := range append(outsideFrom(996), right+1<<32, right-1<<32, -right-1, math.MinInt+right) {
			expectAccept(t, secret, token(address, time, tag), address, time, false)
		}
	})
}

func TestPromise58TagOfAnotherSecret(t *testing.T) {
	same := 0
	for secret := 0; secret <= 96; secret++ {
		for other := 0; other <= 96; other++ {
			for _, address := range tokenAddresses {
				made := madeToken(t, other, address, 250)
				fits := made == madeToken(t, secret, address, 250)
				expectAccept(t, secret, made, address, 250, fits)
				if fits && secret != other {
					same++
				}
			}
		}
	}
	if same == 0 {
		t.Error("no two secrets have the same token")
	}
}

func TestPromise58Future(t *testing.T) {
	forSampleTokens(func(secret int, address int, now int) {
		for time := now + 1; time <= 999; time++ {
			expectAccept(t, secret, madeToken(t, secret, address, time), address, now, false)
		}
		for _, time := range []int{1000, 1001, 1019, now + 1000, now + 1<<32, math.MaxInt - 20, math.MaxInt - 1, math.MaxInt} {
			expectAccept(t, secret, token(address, time, tagOf(secret, address, time)), address, now, false)
		}
	})
}

func TestPromise58OtherAddressOfToken(t *testing.T) {
	forSampleTokens(func(secret int, address int, time int) {
		right := tagOf(secret, address, time)
		for other := -3; other <= 103; other++ {
			expectAccept(t, secret, token(other, time, right), address, time, other == address)
		}
		for _, other := range append(outsideFrom(99), address+1<<32, address-1<<32) {
			expectAccept(t, secret, token(other, time, right), address, time, false)
			expectAccept(t, secret, token(other, time, tagOf(secret, other, time)), address, time, false)
		}
	})
}

func TestPromise59TimeOfToken(t *testing.T) {
	forSampleTokens(func(secret int, address int, now int) {
		for time := -1100; time <= 2100; time++ {
			want := 0 <= time && now-20 <= time && time <= now
			expectAccept(t, secret, token(address, time, tagOf(secret, address, time)), address, now, want)
		}
		// For some of these, a difference or a sum of times overflows.
		for _, time := range []int{math.MinInt, math.MinInt + now, math.MinInt + now + 1, now + math.MinInt + 20, now - 1<<32, now + 1<<32} {
			expectAccept(t, secret, token(address, time, tagOf(secret, address, time)), address, now, false)
		}
	})
}

func TestPromise59AllTags(t *testing.T) {
	for _, secret := range []int{0, 13, 96} {
		for _, now := range []int{0, 10, 20, 400, 999} {
			for time := now - 24; time <= now+4; time++ {
				for tag := 0; tag <= 996; tag++ {
					k := token(77, time, tag)
					made, ok := impl.TokenMake(secret, 77, time)
					want := ok && k == made && now-20 <= time && time <= now
					expectAccept(t, secret, k, 77, now, want)
				}
			}
		}
	}
}

func TestPromise59RandomTokens(t *testing.T) {
	source := rand.New(rand.NewSource(12))
	accepted := 0
	for range 2000000 {
		secret, address, now := source.Intn(99)-1, source.Intn(101), source.Intn(1002)-1
		k := token(address, now-source.Intn(22), source.Intn(997))
		if source.Intn(4) > 0 {
			k.Tag = tagOf(secret, k.Address, k.Time)
		}
		if source.Intn(4) == 0 {
			k.Address += source.Intn(3) - 1
		}
		if !impl.TokenAccept(secret, k, address, now) {
			continue
		}
		accepted++
		if k != madeToken(t, secret, address, k.Time) || k.Time < now-20 || k.Time > now {
			t.Fatalf("TokenAccept(%d, %+v, %d, %d) returned true", secret, k, address, now)
		}
	}
	if accepted < 100000 {
		t.Errorf("only %d tokens were accepted", accepted)
	}
}

func TestPromise60TokenExamples(t *testing.T) {
	tests := []struct {
		secret  int
		address int
		time    int
		tag     int
	}{
		{0, 1, 0, 421},
		{0, 1, 999, 313},
		{0, 99, 0, 614},
		{0, 99, 999, 73},
		{96, 1, 0, 206},
		{96, 1, 999, 815},
		{96, 99, 0, 718},
		{96, 99, 999, 824},
		{1, 1, 1, 328},
		{3, 7, 10, 347},
		{12, 34, 56, 887},
		{41, 58, 500, 595},
	}
	for _, test := range tests {
		made := madeToken(t, test.secret, test.address, test.time)
		if want := token(test.address, test.time, test.tag); made != want {
			t.Errorf("TokenMake(%d, %d, %d) returned %+v, want %+v", test.secret, test.address, test.time, made, want)
		}
	}
}

func TestPromise60AllTokens(t *testing.T) {
	lowest, highest := 996, 0
	forAllTokens(func(secret int, address int, time int) {
		made, ok := impl.TokenMake(secret, address, time)
		if !ok || made != token(address, time, tagOf(secret, address, time)) || made.Tag < 0 || made.Tag > 996 {
			t.Fatalf("TokenMake(%d, %d, %d) returned %+v, %t", secret, address, time, made, ok)
		}
		lowest, highest = min(lowest, made.Tag), max(highest, made.Tag)
	})
	if lowest != 0 || highest != 996 {
		t.Errorf("tags are from %d to %d", lowest, highest)
	}
}

func TestPromise60Invalid(t *testing.T) {
	forSampleTokens(func(secret int, address int, time int) {
		for _, wrong := range outsideFrom(96) {
			expectNoToken(t, wrong, address, time)
		}
		for _, wrong := range append(outsideFrom(99), 0) {
			expectNoToken(t, secret, wrong, time)
		}
		for _, wrong := range outsideFrom(999) {
			expectNoToken(t, secret, address, wrong)
		}
	})
	expectNoToken(t, -1, 0, -1)
	expectNoToken(t, 97, 100, 1000)
	expectNoToken(t, math.MinInt, math.MinInt, math.MinInt)
	expectNoToken(t, math.MaxInt, math.MaxInt, math.MaxInt)
}

func TestPromise61Bound(t *testing.T) {
	forAllowances(func(received int, sent int, validated bool) {
		allowance := impl.SendAllowance(received, sent, false)
		if allowance < 0 || allowance != 0 && sent+allowance > 3*received || sent+allowance > 9999 {
			t.Fatalf("SendAllowance(%d, %d, false) returned %d", received, sent, allowance)
		}
	})
	forInvalidAllowances(func(received int, sent int, validated bool) {
		expectAllowance(t, received, sent, false, 0)
	})
}

func TestPromise61Examples(t *testing.T) {
	tests := []struct {
		received int
		sent     int
		want     int
	}{
		{100, 50, 250},
		{100, 0, 300},
		{1, 0, 3},
		{1, 1, 2},
		// Sent is just below, at, and above three times received.
		{100, 299, 1},
		{100, 300, 0},
		{100, 301, 0},
		{10, 40, 0},
		{1, 9999, 0},
		{3332, 9996, 0},
		// Three times received is at most MaxBytes, or exceeds it.
		{3332, 0, 9996},
		{3333, 0, 9999},
		{3333, 9998, 1},
		{3333, 9999, 0},
		{3334, 0, 9999},
		{3334, 1, 9998},
		{3334, 9998, 1},
		{3334, 9999, 0},
		{9999, 0, 9999},
		{9999, 5000, 4999},
		{9999, 9998, 1},
		{9999, 9999, 0},
	}
	for _, test := range tests {
		expectAllowance(t, test.received, test.sent, false, test.want)
	}
}

func TestPromise62Validated(t *testing.T) {
	forAllowances(func(received int, sent int, validated bool) {
		expectAllowance(t, received, sent, true, 9999-sent)
		if low := impl.SendAllowance(received, sent, false); low > 9999-sent {
			t.Fatalf("SendAllowance(%d, %d, false) returned %d", received, sent, low)
		}
	})
}

func TestPromise62Examples(t *testing.T) {
	for _, received := range []int{0, 1, 3333, 3334, 9999} {
		expectAllowance(t, received, 0, true, 9999)
		expectAllowance(t, received, 1, true, 9998)
		expectAllowance(t, received, 3*min(received, 3333), true, 9999-3*min(received, 3333))
		expectAllowance(t, received, 9998, true, 1)
		expectAllowance(t, received, 9999, true, 0)
	}
	expectAllowance(t, 100, 50, true, 9949)
}

func TestPromise62Invalid(t *testing.T) {
	forInvalidAllowances(func(received int, sent int, validated bool) {
		expectAllowance(t, received, sent, validated, 0)
	})
}

func TestPromise63SendMore(t *testing.T) {
	forAllowances(func(received int, sent int, validated bool) {
		allowance := impl.SendAllowance(received, sent, validated)
		for _, n := range []int{0, 1, 2, allowance / 2, allowance - 1, allowance} {
			if n >= 0 && n <= allowance {
				expectAllowance(t, received, sent+n, validated, allowance-n)
			}
		}
	})
}

func TestPromise63EveryByte(t *testing.T) {
	for _, received := range allowanceCounts {
		for _, validated := range []bool{false, true} {
			// Byte by byte, until nothing may be sent.
			sent, allowance := 0, impl.SendAllowance(received, 0, validated)
			for ; allowance > 0; allowance-- {
				expectAllowance(t, received, sent, validated, allowance)
				sent++
			}
			expectAllowance(t, received, sent, validated, 0)
			expectAllowance(t, received, sent+1, validated, 0)
		}
	}
}

func TestPromise64ReceiveMore(t *testing.T) {
	for _, sent := range slices.Concat(allowanceCounts, outsideFrom(9999)) {
		for _, validated := range []bool{false, true} {
			last := 0
			for received := -20; received <= 9999; received++ {
				allowance := impl.SendAllowance(received, sent, validated)
				if allowance < last {
					t.Fatalf("SendAllowance(%d, %d, %t) returned %d after %d", received, sent, validated, allowance, last)
				}
				last = allowance
			}
		}
	}
}

func TestPromise64AllCounts(t *testing.T) {
	forAllowances(func(received int, sent int, validated bool) {
		expectAllowance(t, received, sent, validated, expectedAllowance(received, sent, validated))
	})
}

func TestPromise65NothingReceived(t *testing.T) {
	for sent := -100; sent <= 10100; sent++ {
		expectAllowance(t, 0, sent, false, 0)
	}
	for _, sent := range outsideFrom(9999) {
		expectAllowance(t, 0, sent, false, 0)
	}
}
