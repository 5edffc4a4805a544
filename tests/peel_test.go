package tests

import (
	"fmt"
	"slices"
	"testing"

	"loop.example/g00254/impl"
)

func wantPeeled(t *testing.T, call, secret string, round int, onion string, want impl.Peeled) {
	t.Helper()
	if got, code := impl.PeelOnion(secret, round, []byte(onion)); code != impl.OK || got != want {
		t.Errorf("PeelOnion %s: %x, code %d; want %x", call, got, code, want)
	}
}

func wantNotPeeled(t *testing.T, call, secret string, round int, onion string, want int) {
	t.Helper()
	if got, code := impl.PeelOnion(secret, round, []byte(onion)); code != want || got != (impl.Peeled{}) {
		t.Errorf("PeelOnion %s, %d bytes: %x, code %d; want nothing, code %d", call, len(onion), got, code, want)
	}
}

func TestP9PeelEachLayer(t *testing.T) {
	for _, layers := range layerCounts() {
		keys := keysFor(t, secretsOf(layers))
		for _, size := range payloadSizes(layers) {
			for _, round := range []int{0, 7, 1000000} {
				hops := otherHops(t, someKey(), round, keys)
				forms := otherForms(round, hops, someText(size))
				for hop, h := range hops {
					want := impl.Peeled{Inner: forms[hop+1], Tag: h.tag, Reply: h.reply}
					wantPeeled(t, fmt.Sprint("hop ", hop, " of ", layers), secretOf(hop), round, forms[hop], want)
				}
			}
		}
	}
}

// TestP9PeelByTheProgramsOwn opens a layer by what the server itself can work out.
func TestP9PeelByTheProgramsOwn(t *testing.T) {
	ok := must(t)
	onion, _ := impl.WrapOnion(someKey(), 0x010203, keysFor(t, secretsOf(3)), someBytes(50))
	for hop := range 3 {
		secret, public := secretOf(hop), string(onion[:32])
		key, tag, reply, _ := impl.LayerKeys(ok(impl.ScalarMult(secret, public)), 0x010203)
		inner, code := impl.OpenBox(key, noughts(8)+"\x00\x01\x02\x03", []byte(public), onion[32:])
		if code != impl.OK {
			t.Fatal("OpenBox", code)
		}
		wantPeeled(t, fmt.Sprint("hop ", hop), secret, 0x010203, string(onion), impl.Peeled{Inner: string(inner), Tag: tag, Reply: reply})
		onion = inner
	}
	if string(onion) != someText(50) {
		t.Errorf("left: %x", onion)
	}
}

func TestP9PeelOfAnotherServer(t *testing.T) {
	forms := otherForms(7, otherHops(t, someKey(), 7, keysFor(t, secretsOf(4))), "payload")
	for hop, form := range forms[:4] {
		for _, secret := range append(secretsOf(6), noughts(32), ones(32), someKey(), otherSecret(someKey(), hop)) {
			if secret != secretOf(hop) {
				wantNotPeeled(t, fmt.Sprint("by another server, hop ", hop), secret, 7, form, impl.ErrSealed)
			}
		}
	}
}

// TestP9PeelByEachBitOfASecret: those that clamping sets do not count, all others do.
func TestP9PeelByEachBitOfASecret(t *testing.T) {
	hops := otherHops(t, someKey(), 7, keysFor(t, secretsOf(1)))
	onion := otherForms(7, hops, "payload")[0]
	for bit := range 256 {
		call, secret := fmt.Sprint("with bit ", bit, " of the secret"), flipped(secretOf(0), bit)
		if slices.Contains(freeBits(), bit) {
			wantPeeled(t, call, secret, 7, onion, impl.Peeled{Inner: "payload", Tag: hops[0].tag, Reply: hops[0].reply})
		} else {
			wantNotPeeled(t, call, secret, 7, onion, impl.ErrSealed)
		}
	}
}

func TestP9PeelInAnotherRound(t *testing.T) {
	for _, wrapped := range pairRounds() {
		onion := otherOnion(t, someKey(), wrapped, keysFor(t, secretsOf(2)), "payload")
		for _, round := range pairRounds() {
			if round != wrapped {
				wantNotPeeled(t, fmt.Sprint("of round ", wrapped, " in ", round), secretOf(0), round, onion, impl.ErrSealed)
			}
		}
		for _, round := range wrongRounds() {
			wantNotPeeled(t, fmt.Sprint("in round ", round), secretOf(0), round, onion, impl.ErrRange)
		}
	}
}

// TestP9PeelEveryBit: the public key (its highest bit too), what is sealed and the tag.
func TestP9PeelEveryBit(t *testing.T) {
	for _, layers := range []int{1, 2} {
		onion := otherOnion(t, someKey(), 7, keysFor(t, secretsOf(layers)), someText(20))
		for bit := range 8 * len(onion) {
			wantNotPeeled(t, fmt.Sprint("with bit ", bit), secretOf(0), 7, flipped(onion, bit), impl.ErrSealed)
		}
	}
	empty := otherOnion(t, someKey(), 7, keysFor(t, secretsOf(1)), "")
	for bit := range 8 * len(empty) {
		wantNotPeeled(t, fmt.Sprint("with bit ", bit), secretOf(0), 7, flipped(empty, bit), impl.ErrSealed)
	}
}

func TestP9PeelOfAnotherLength(t *testing.T) {
	onion := otherOnion(t, someKey(), 7, keysFor(t, secretsOf(1)), someText(100))
	for size := range len(onion) {
		want := impl.ErrSealed
		if size < 48 {
			want = impl.ErrForm
		}
		wantNotPeeled(t, "of the beginning", secretOf(0), 7, onion[:size], want)
	}
	for by := 1; by <= 20; by++ {
		wantNotPeeled(t, "with noughts behind", secretOf(0), 7, onion+noughts(by), impl.ErrSealed)
		wantNotPeeled(t, "with noughts ahead", secretOf(0), 7, noughts(by)+onion, impl.ErrSealed)
	}
}

// TestP9PeelOfFewAndManyBytes: what has the bytes of a layer may be one, up to MaxItem.
func TestP9PeelOfFewAndManyBytes(t *testing.T) {
	for _, fill := range []func(int) string{noughts, ones, someText} {
		for size := range 48 {
			wantNotPeeled(t, "of few bytes", secretOf(0), 7, fill(size), impl.ErrForm)
		}
		for _, size := range []int{48, 49, 64, 399, 400} {
			wantNotPeeled(t, "of no onion", secretOf(0), 7, fill(size), impl.ErrSealed)
		}
		for _, size := range []int{401, 402, 448, 4096, impl.MaxText} {
			wantNotPeeled(t, "of many bytes", secretOf(0), 7, fill(size), impl.ErrRange)
		}
	}
}

func TestP9PeelOfTheLeastAndTheMost(t *testing.T) {
	hops := otherHops(t, someKey(), 7, keysFor(t, secretsOf(1)))
	for _, size := range []int{0, 1, 351, 352} {
		want := impl.Peeled{Inner: someText(size), Tag: hops[0].tag, Reply: hops[0].reply}
		wantPeeled(t, fmt.Sprint(size, " bytes inside"), secretOf(0), 7, otherForms(7, hops, someText(size))[0], want)
	}
	for _, size := range []int{353, 400} {
		wantNotPeeled(t, "of a whole layer that is too long", secretOf(0), 7, otherForms(7, hops, someText(size))[0], impl.ErrRange)
	}
}

// TestP9PeelOfKeysThatShareNought: PeelOnion goes up as ScalarMult, so that what is shared may be nought.
func TestP9PeelOfKeysThatShareNought(t *testing.T) {
	all := otherDraw(t, noughts(32), 7, "layer", 96)
	for _, u := range smallPoints() {
		public := text32(u)
		onion := public + string(otherBox(all[:32], otherNonce(7), []byte(public), []byte("payload")))
		for _, secret := range secretsOf(3) {
			wantPeeled(t, fmt.Sprintf("of %x", public), secret, 7, onion, impl.Peeled{Inner: "payload", Tag: all[32:64], Reply: all[64:]})
		}
	}
}

func TestP9PeelOfWrongSecrets(t *testing.T) {
	onion := otherOnion(t, someKey(), 7, keysFor(t, secretsOf(1)), "payload")
	for _, secret := range wrongLengths() {
		for _, b := range []string{"", onion[:47], onion[:48], onion, noughts(400), noughts(401), noughts(impl.MaxText)} {
			for _, round := range append(wrongRounds(), 0, 7, 1000000) {
				wantNotPeeled(t, fmt.Sprint("by ", len(secret), " bytes, round ", round), secret, round, b, impl.ErrBad)
			}
		}
	}
}

// TestP9PeelCodesInOrder: ErrRange comes ahead of ErrForm, ErrForm ahead of ErrSealed.
func TestP9PeelCodesInOrder(t *testing.T) {
	for _, round := range wrongRounds() {
		for _, size := range []int{0, 47, 48, 400, 401} {
			wantNotPeeled(t, fmt.Sprint("round ", round), secretOf(0), round, someText(size), impl.ErrRange)
		}
	}
}

func wantAllPeeled(t *testing.T, call string, secrets []string, round int, onion, left string) {
	t.Helper()
	if got, n, code := impl.PeelAll(secrets, round, []byte(onion)); code != impl.OK || got != left || n != len(secrets) {
		t.Errorf("PeelAll %s: %x, %d peeled, code %d; want %x, %d", call, got, n, code, left, len(secrets))
	}
}

func wantSomePeeled(t *testing.T, call string, secrets []string, round int, onion string, peeled int) {
	t.Helper()
	if got, n, code := impl.PeelAll(secrets, round, []byte(onion)); code != impl.ErrSealed || got != "" || n != peeled {
		t.Errorf("PeelAll %s: %x, %d peeled, code %d; want nothing, %d, code %d", call, got, n, code, peeled, impl.ErrSealed)
	}
}

func wantNonePeeled(t *testing.T, call string, secrets []string, round int, onion string, want int) {
	t.Helper()
	if got, n, code := impl.PeelAll(secrets, round, []byte(onion)); code != want || got != "" || n != 0 {
		t.Errorf("PeelAll %s, %d bytes: %x, %d peeled, code %d; want nothing, code %d", call, len(onion), got, n, code, want)
	}
}

// TestP9WhatIsPeeledIsWhatWasWrapped holds the program against itself, and the onion's beginning against its end.
func TestP9WhatIsPeeledIsWhatWasWrapped(t *testing.T) {
	for _, layers := range layerCounts() {
		secrets := secretsOf(layers)
		keys := keysFor(t, secrets)
		for size := 0; size <= 400-48*layers; size += 16 - layers {
			for _, round := range []int{0, size, 1000000} {
				onion, code := impl.WrapOnion(someKey(), round, keys, someBytes(size))
				if code != impl.OK {
					t.Fatalf("WrapOnion of %d keys, %d bytes: code %d", layers, size, code)
				}
				wantAllPeeled(t, fmt.Sprint(layers, " layers, round ", round), secrets, round, string(onion), someText(size))
			}
		}
	}
}

func TestP9PeelAllOfEveryPayload(t *testing.T) {
	for _, layers := range layerCounts() {
		secrets := secretsOf(layers)
		hops := otherHops(t, someKey(), 7, keysFor(t, secrets))
		for _, size := range payloadSizes(layers) {
			for _, fill := range []func(int) string{noughts, ones, someText} {
				wantAllPeeled(t, fmt.Sprint(layers, " layers"), secrets, 7, otherForms(7, hops, fill(size))[0], fill(size))
			}
		}
	}
}

func TestP9PeelAllPieceByPiece(t *testing.T) {
	secrets := secretsOf(4)
	forms := otherForms(7, otherHops(t, someKey(), 7, keysFor(t, secrets)), "payload")
	for from := range 5 {
		for to := from; to <= 4; to++ {
			wantAllPeeled(t, fmt.Sprint("from ", from, " to ", to), secrets[from:to], 7, forms[from], forms[to])
		}
	}
}

// ordersOf are all orders of a list.
func ordersOf(list []string) [][]string {
	if len(list) == 0 {
		return [][]string{nil}
	}
	var out [][]string
	for i, first := range list {
		for _, rest := range ordersOf(slices.Concat(list[:i], list[i+1:])) {
			out = append(out, append([]string{first}, rest...))
		}
	}
	return out
}

// beginning is how many elements two lists have in common ahead of the first that differs.
func beginning(a, b []string) int {
	n := 0
	for n < min(len(a), len(b)) && a[n] == b[n] {
		n++
	}
	return n
}

func TestP9PeelAllInEveryOrder(t *testing.T) {
	for _, layers := range layerCounts() {
		secrets := secretsOf(layers)
		onion := otherOnion(t, someKey(), 7, keysFor(t, secrets), someText(60))
		for _, order := range ordersOf(secrets) {
			if slices.Equal(order, secrets) {
				wantAllPeeled(t, "in order", order, 7, onion, someText(60))
			} else {
				wantSomePeeled(t, fmt.Sprint("in another order, ", layers, " layers"), order, 7, onion, beginning(order, secrets))
			}
		}
	}
}

// TestP9PeelAllWithASecretMore: too few bytes are left, or those of a layer that is none.
func TestP9PeelAllWithASecretMore(t *testing.T) {
	for _, layers := range []int{0, 1, 2, 3} {
		hops := otherHops(t, someKey(), 7, keysFor(t, secretsOf(layers)))
		for _, size := range []int{0, 1, 47, 48, 49, 256} {
			for _, fill := range []func(int) string{noughts, ones, someText} {
				onion := otherForms(7, hops, fill(size))[0]
				wantSomePeeled(t, fmt.Sprint(size, " bytes left"), secretsOf(layers+1), 7, onion, layers)
				wantSomePeeled(t, fmt.Sprint(size, " bytes left"), append(secretsOf(layers), secretOf(0)), 7, onion, layers)
			}
		}
	}
}

// TestP9PeelAllOfAnOnionInAnOnion: a payload may have layers of its own.
func TestP9PeelAllOfAnOnionInAnOnion(t *testing.T) {
	secrets := secretsOf(4)
	keys := keysFor(t, secrets)
	inner := otherOnion(t, shareOf(1), 7, keys[2:], "payload")
	outer := otherOnion(t, someKey(), 7, keys[:2], inner)
	wantAllPeeled(t, "both", secrets, 7, outer, "payload")
	wantAllPeeled(t, "the outer one", secrets[:2], 7, outer, inner)
	other := otherOnion(t, someKey(), 7, keys[:2], otherOnion(t, shareOf(1), 8, keys[2:], "payload"))
	wantSomePeeled(t, "with one of another round inside", secrets, 7, other, 2)
}

func TestP9PeelAllWithOneWrongSecret(t *testing.T) {
	for _, layers := range []int{1, 2, 3, 4} {
		onion := otherOnion(t, someKey(), 7, keysFor(t, secretsOf(layers)), someText(60))
		for at := range layers {
			for _, wrong := range []string{secretOf(9), noughts(32), ones(32), flipped(secretOf(at), 100)} {
				secrets := secretsOf(layers)
				secrets[at] = wrong
				wantSomePeeled(t, fmt.Sprint("with a wrong secret at ", at, " of ", layers), secrets, 7, onion, at)
			}
		}
	}
}

// TestP9PeelAllWithABitChangedWithin: the bit is found by the server in whose layer it is changed.
func TestP9PeelAllWithABitChangedWithin(t *testing.T) {
	secrets := secretsOf(4)
	hops := otherHops(t, someKey(), 7, keysFor(t, secrets))
	forms := otherForms(7, hops, someText(40))
	for at := range 4 {
		for bit := 0; bit < 8*len(forms[at]); bit += 37 {
			onion := otherForms(7, hops[:at], flipped(forms[at], bit))[0]
			wantSomePeeled(t, fmt.Sprint("with bit ", bit, " of layer ", at), secrets, 7, onion, at)
		}
	}
}

func TestP9PeelAllInAnotherRound(t *testing.T) {
	onion := otherOnion(t, someKey(), 7, keysFor(t, secretsOf(2)), "payload")
	for _, round := range []int{0, 6, 8, 7 + 256, 1000000} {
		wantSomePeeled(t, fmt.Sprint("in round ", round), secretsOf(2), round, onion, 0)
	}
	for _, round := range wrongRounds() {
		for layers := range 6 {
			wantNonePeeled(t, fmt.Sprint("in round ", round), secretsOf(layers), round, onion, impl.ErrRange)
		}
	}
}

// TestP9PeelAllWithoutSecrets: nothing is peeled, and all is left.
func TestP9PeelAllWithoutSecrets(t *testing.T) {
	for size := range 401 {
		wantAllPeeled(t, fmt.Sprint("of ", size, " bytes"), nil, 7, someText(size), someText(size))
	}
	for _, size := range []int{401, 402, impl.MaxText} {
		wantNonePeeled(t, "of many bytes", nil, 7, someText(size), impl.ErrRange)
	}
}

func TestP9PeelAllOfFewAndManyBytes(t *testing.T) {
	for layers := 1; layers <= 4; layers++ {
		for size := range 49 {
			wantSomePeeled(t, fmt.Sprint("of ", size, " bytes"), secretsOf(layers), 7, someText(size), 0)
		}
		wantSomePeeled(t, "of 400 bytes", secretsOf(layers), 7, someText(400), 0)
		for _, size := range []int{401, 402, 4096, impl.MaxText} {
			wantNonePeeled(t, "of many bytes", secretsOf(layers), 7, someText(size), impl.ErrRange)
		}
	}
}

// TestP9PeelAllOfWrongSecrets: ErrBad comes ahead of ErrRange, also where there are too many secrets.
func TestP9PeelAllOfWrongSecrets(t *testing.T) {
	onion := otherOnion(t, someKey(), 7, keysFor(t, secretsOf(1)), "payload")
	lists := wrongKeyLists(secretOf(0))
	for _, list := range wrongKeyLists(secretOf(0)) {
		lists = append(lists, append(secretsOf(4), list...), append(slices.Clone(list), secretsOf(4)...))
	}
	for _, secrets := range lists {
		for _, b := range []string{"", onion, noughts(400), noughts(401), noughts(impl.MaxText)} {
			for _, round := range []int{-1, 0, 7, 1000000, 1000001} {
				wantNonePeeled(t, fmt.Sprint("by ", len(secrets), " secrets, a wrong one among them, round ", round), secrets, round, b, impl.ErrBad)
			}
		}
	}
}

func TestP9PeelAllOfManySecrets(t *testing.T) {
	onion := otherOnion(t, someKey(), 7, keysFor(t, secretsOf(4)), "payload")
	for _, count := range []int{5, 6, 64, impl.MaxList} {
		for _, b := range []string{"", onion, noughts(400), noughts(401)} {
			for _, round := range []int{-1, 7, 1000001} {
				wantNonePeeled(t, fmt.Sprint("by ", count, " secrets, round ", round), slices.Repeat(secretsOf(1), count), round, b, impl.ErrRange)
			}
		}
	}
	wantNonePeeled(t, "by 5 secrets", secretsOf(5), 7, onion, impl.ErrRange)
}
