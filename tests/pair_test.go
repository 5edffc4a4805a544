package tests

import (
	"encoding/binary"
	"fmt"
	"slices"
	"strings"
	"testing"

	"loop.example/g00254/impl"
)

// otherDraw puts the library's HMAC and HKDF together as the chapter does.
func otherDraw(t *testing.T, secret string, round int, info string, n int) string {
	t.Helper()
	key := libraryHmac(binary.BigEndian.AppendUint32(nil, uint32(round)), []byte(secret))
	return libraryExpand(t, key, []byte(info), n)
}

func pairSecrets() []string {
	return []string{noughts(32), ones(32), someKey(), noughts(31) + "\x01", "\x01" + noughts(31), libraryHash([]byte("secret"))}
}

func pairRounds() []int { return []int{0, 1, 7, 255, 256, 65535, 65536, 999999, 1000000} }

func wrongSides() []int {
	return append(farNumbers(), -1, 2, 3, 255, 256, 257)
}

func wrongRounds() []int { return append(farNumbers(), -1, 1000001) }

func TestP6DropsAndKeys(t *testing.T) {
	for _, secret := range pairSecrets() {
		for _, round := range pairRounds() {
			call := fmt.Sprintf(" of %x, %d", secret, round)
			got, code := impl.DropId(secret, round)
			wantText(t, "DropId"+call, got, code, otherDraw(t, secret, round, "drop", 8))
			got, code = impl.PairKey(secret, round, 0)
			wantText(t, "PairKey"+call+", 0", got, code, otherDraw(t, secret, round, "key\x00", 32))
			got, code = impl.PairKey(secret, round, 1)
			wantText(t, "PairKey"+call+", 1", got, code, otherDraw(t, secret, round, "key\x01", 32))
		}
	}
}

// TestP6DropsByTheProgramsOwnHashes says the same of Hmac and HkdfExpand as the program has them.
func TestP6DropsByTheProgramsOwnHashes(t *testing.T) {
	want, secret := must(t), someKey()
	key := want(impl.Hmac([]byte{0, 1, 2, 3}, []byte(secret)))
	if want(impl.DropId(secret, 0x010203)) != want(impl.HkdfExpand(key, []byte("drop"), 8)) {
		t.Error("DropId is not what the chapter puts together")
	}
	for side := range 2 {
		if want(impl.PairKey(secret, 0x010203, side)) != want(impl.HkdfExpand(key, append([]byte("key"), byte(side)), 32)) {
			t.Error("PairKey is not what the chapter puts together, side", side)
		}
	}
}

// TestP6BothSidesHaveOneDrop: what two share by their keys leads both to one drop, and each to the other's key.
func TestP6BothSidesHaveOneDrop(t *testing.T) {
	want := must(t)
	keys := []string{noughts(32), ones(32), someKey(), libraryHash([]byte("a")), libraryHash([]byte("b"))}
	for i, a := range keys {
		for _, b := range keys[i+1:] {
			ofA := want(impl.SharedSecret(a, want(impl.PublicKey(b))))
			ofB := want(impl.SharedSecret(b, want(impl.PublicKey(a))))
			for _, round := range []int{0, 1, 1000000} {
				if want(impl.DropId(ofA, round)) != want(impl.DropId(ofB, round)) {
					t.Errorf("two drops in round %d of %x, %x", round, a, b)
				}
				for side := range 2 {
					if want(impl.PairKey(ofA, round, side)) != want(impl.PairKey(ofB, round, side)) {
						t.Errorf("two keys in round %d of %x, %x, side %d", round, a, b, side)
					}
				}
			}
		}
	}
}

// TestP6DrawsOfAPairDiffer: the drops and keys of all rounds, sides and secrets differ, and none begins another.
func TestP6DrawsOfAPairDiffer(t *testing.T) {
	want := must(t)
	var all []string
	for _, secret := range pairSecrets() {
		for _, round := range pairRounds() {
			all = append(all, want(impl.DropId(secret, round)), want(impl.PairKey(secret, round, 0)), want(impl.PairKey(secret, round, 1)))
		}
	}
	slices.Sort(all)
	for i := range len(all) - 1 {
		if strings.HasPrefix(all[i+1], all[i]) {
			t.Errorf("two draws begin alike: %x, %x", all[i], all[i+1])
		}
	}
}

func TestP6EachBitOfASecretCounts(t *testing.T) {
	want := must(t)
	secret := someKey()
	drop, key := want(impl.DropId(secret, 5)), want(impl.PairKey(secret, 5, 1))
	for bit := range 256 {
		other := flipped(secret, bit)
		if want(impl.DropId(other, 5)) == drop || want(impl.PairKey(other, 5, 1)) == key {
			t.Error("does not count: bit", bit)
		}
	}
}

func TestP6WrongRoundsAndSides(t *testing.T) {
	for _, secret := range pairSecrets() {
		for _, round := range wrongRounds() {
			got, code := impl.DropId(secret, round)
			wantCode(t, fmt.Sprint("DropId, round ", round), got, code, impl.ErrRange)
			for _, side := range append(wrongSides(), 0, 1) {
				got, code := impl.PairKey(secret, round, side)
				wantCode(t, fmt.Sprint("PairKey, round ", round, ", side ", side), got, code, impl.ErrRange)
			}
		}
		for _, round := range pairRounds() {
			for _, side := range wrongSides() {
				got, code := impl.PairKey(secret, round, side)
				wantCode(t, fmt.Sprint("PairKey, round ", round, ", side ", side), got, code, impl.ErrRange)
			}
		}
	}
}

// TestP6WrongSecrets: ErrBad comes ahead of ErrRange.
func TestP6WrongSecrets(t *testing.T) {
	for _, secret := range wrongLengths() {
		for _, round := range append(wrongRounds(), pairRounds()...) {
			got, code := impl.DropId(secret, round)
			wantCode(t, fmt.Sprint("DropId of ", len(secret), " bytes, round ", round), got, code, impl.ErrBad)
			for _, side := range append(wrongSides(), 0, 1) {
				got, code := impl.PairKey(secret, round, side)
				wantCode(t, fmt.Sprint("PairKey of ", len(secret), " bytes, round ", round, ", side ", side), got, code, impl.ErrBad)
			}
		}
	}
}
