package tests

import (
	"fmt"
	"math/big"
	"slices"
	"testing"

	"loop.example/g00254/impl"
)

// otherJoined takes texts of 32 bytes as numbers, whose bits it puts on each other.
func otherJoined(shares ...string) string {
	sum := new(big.Int)
	for _, share := range shares {
		sum.Xor(sum, number(share))
	}
	return text32(sum)
}

func otherShares(key string, n int, seed string) []string {
	var out []string
	for k := range n - 1 {
		out = append(out, libraryHash([]byte("share"+seed+string([]byte{byte(k)}))))
	}
	return append(out, otherJoined(append(slices.Clone(out), key)...))
}

func splitKeys() []string {
	return []string{noughts(32), ones(32), someKey(), noughts(31) + "\x01", "\x80" + noughts(31), libraryHash([]byte("key"))}
}

func wrongShareCounts() []int { return append(farNumbers(), -1, 0, 17, 18, 32, 255, 256, 257) }

func wantShares(t *testing.T, key string, n int, seed string) []string {
	t.Helper()
	shares, code := impl.SplitKey(key, n, seed)
	if want := otherShares(key, n, seed); code != impl.OK || !slices.Equal(shares, want) {
		t.Errorf("SplitKey of %x, %d, %x: %x, code %d; want %x", key, n, seed, shares, code, want)
	}
	return shares
}

func wantNoShares(t *testing.T, key string, n int, seed string, want int) {
	t.Helper()
	if shares, code := impl.SplitKey(key, n, seed); code != want || len(shares) != 0 {
		t.Errorf("SplitKey of %d bytes, %d, %d bytes: %x, code %d; want nothing, code %d", len(key), n, len(seed), shares, code, want)
	}
}

func wantJoined(t *testing.T, shares []string, key string) {
	t.Helper()
	got, code := impl.JoinKey(shares)
	wantText(t, fmt.Sprint("JoinKey of ", len(shares), " shares"), got, code, key)
}

func wantNotJoined(t *testing.T, shares []string, want int) {
	t.Helper()
	got, code := impl.JoinKey(shares)
	wantCode(t, fmt.Sprint("JoinKey of ", len(shares), " shares ", told(shares)), got, code, want)
}

func TestP13SharesOfAKey(t *testing.T) {
	for _, key := range splitKeys() {
		for _, seed := range someSeeds() {
			for n := 1; n <= 16; n++ {
				shares := wantShares(t, key, n, seed)
				wantJoined(t, shares, key)
			}
		}
	}
}

// TestP13SharesByTheProgramsOwnHashes says the same of Hash as the program has it, byte by byte.
func TestP13SharesByTheProgramsOwnHashes(t *testing.T) {
	key, seed := someKey(), shareOf(3)
	shares, code := impl.SplitKey(key, 16, seed)
	if code != impl.OK || len(shares) != 16 {
		t.Fatal("SplitKey", len(shares), code)
	}
	last := []byte(key)
	for k, share := range shares[:15] {
		if share != impl.Hash([]byte("share"+seed+string([]byte{byte(k)}))) {
			t.Error("no hash as the chapter has it: share", k)
		}
		for i := range last {
			last[i] ^= share[i]
		}
	}
	if shares[15] != string(last) {
		t.Error("the last share does not make up the key")
	}
}

func TestP13OneShareIsTheKey(t *testing.T) {
	for _, key := range splitKeys() {
		shares, code := impl.SplitKey(key, 1, someKey())
		if code != impl.OK || !slices.Equal(shares, []string{key}) {
			t.Errorf("SplitKey of %x, 1: %x, code %d", key, shares, code)
		}
		wantJoined(t, []string{key}, key)
	}
}

// TestP13SharesOfAnyNumberBeginAlike: all but the last one hang on the seed alone.
func TestP13SharesOfAnyNumberBeginAlike(t *testing.T) {
	seed := shareOf(5)
	all := otherShares(noughts(32), 16, seed)[:15]
	for n := 1; n <= 16; n++ {
		for _, key := range splitKeys() {
			if shares := wantShares(t, key, n, seed); !slices.Equal(shares[:n-1], all[:n-1]) {
				t.Errorf("other shares of %x, %d", key, n)
			}
		}
	}
}

// TestP13SharesInAnyOrder: the key is the same.
func TestP13SharesInAnyOrder(t *testing.T) {
	for n := 1; n <= 5; n++ {
		shares := otherShares(someKey(), n, shareOf(n))
		for _, order := range ordersOf(shares) {
			wantJoined(t, order, someKey())
		}
	}
	for n := 6; n <= 16; n++ {
		shares := otherShares(someKey(), n, shareOf(n))
		for turn := range shares {
			turned := append(slices.Clone(shares[turn:]), shares[:turn]...)
			wantJoined(t, turned, someKey())
			slices.Reverse(turned)
			wantJoined(t, turned, someKey())
		}
	}
}

// TestP13AllButOneShareTellNothing: whichever one is left out, there is one that makes any key of the others.
func TestP13AllButOneShareTellNothing(t *testing.T) {
	for _, n := range []int{1, 2, 3, 7, 16} {
		shares := otherShares(someKey(), n, shareOf(n))
		for out := range shares {
			for _, key := range splitKeys() {
				with := slices.Clone(shares)
				with[out] = otherJoined(append(slices.Delete(slices.Clone(shares), out, out+1), key)...)
				wantJoined(t, with, key)
			}
		}
	}
}

func TestP13AllButOneShareAreNotTheKey(t *testing.T) {
	for n := 2; n <= 16; n++ {
		shares := otherShares(someKey(), n, shareOf(n))
		for out := range shares {
			if key, code := impl.JoinKey(slices.Delete(slices.Clone(shares), out, out+1)); code != impl.OK || key == someKey() {
				t.Errorf("without share %d of %d: %x, code %d", out, n, key, code)
			}
		}
	}
}

func TestP13EachBitOfAShareCounts(t *testing.T) {
	shares := otherShares(someKey(), 3, shareOf(3))
	for at := range shares {
		for bit := range 256 {
			with := slices.Clone(shares)
			with[at] = flipped(with[at], bit)
			wantJoined(t, with, flipped(someKey(), bit))
		}
	}
}

// TestP13JoinedShares: they may be any, and alike.
func TestP13JoinedShares(t *testing.T) {
	for n := 1; n <= 16; n++ {
		for _, share := range splitKeys() {
			want := noughts(32)
			if n%2 == 1 {
				want = share
			}
			wantJoined(t, slices.Repeat([]string{share}, n), want)
		}
		wantJoined(t, sharesOf(n), otherJoined(sharesOf(n)...))
	}
}

func TestP13WrongNumbersOfShares(t *testing.T) {
	for _, n := range wrongShareCounts() {
		for _, key := range splitKeys() {
			wantNoShares(t, key, n, someKey(), impl.ErrRange)
		}
	}
	for _, count := range []int{0, 17, 18, 32, 64, 65, 256, 257, impl.MaxList} {
		wantNotJoined(t, slices.Repeat([]string{someKey()}, count), impl.ErrRange)
		wantNotJoined(t, make([]string, count), impl.ErrRange)
	}
	for _, count := range []int{impl.MaxList + 1, 2 * impl.MaxList} {
		wantNotJoined(t, slices.Repeat([]string{someKey()}, count), impl.ErrLong)
		wantNotJoined(t, make([]string, count), impl.ErrLong)
	}
}

// TestP13WrongKeysAndSeeds: ErrBad comes ahead of ErrRange where a key is split.
func TestP13WrongKeysAndSeeds(t *testing.T) {
	for _, n := range append(wrongShareCounts(), 1, 2, 16) {
		for _, wrong := range wrongLengths() {
			wantNoShares(t, wrong, n, someKey(), impl.ErrBad)
			wantNoShares(t, someKey(), n, wrong, impl.ErrBad)
			wantNoShares(t, wrong, n, wrong, impl.ErrBad)
		}
		for _, long := range longTexts() {
			wantNoShares(t, long, n, someKey(), impl.ErrLong)
			wantNoShares(t, someKey(), n, long, impl.ErrLong)
			wantNoShares(t, long, n, "", impl.ErrLong)
			wantNoShares(t, "", n, long, impl.ErrLong)
		}
	}
}

// TestP13WrongShares: a share within a list is bounded by the chapter alone, so that a long one is ErrBad too; behind
// ErrRange where shares are joined.
func TestP13WrongShares(t *testing.T) {
	for _, wrong := range append(wrongLengths(), longTexts()...) {
		for n := 1; n <= 16; n++ {
			for at := range n {
				shares := sharesOf(n)
				shares[at] = wrong
				wantNotJoined(t, shares, impl.ErrBad)
			}
		}
		wantNotJoined(t, append(sharesOf(16), wrong), impl.ErrRange)
	}
}
