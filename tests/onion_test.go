package tests

import (
	"crypto/ecdh"
	"encoding/binary"
	"fmt"
	"slices"
	"testing"

	"loop.example/g00254/impl"
)

func libraryPublic(t *testing.T, k string) string {
	t.Helper()
	private, err := ecdh.X25519().NewPrivateKey([]byte(k))
	if err != nil {
		t.Fatal(err)
	}
	return string(private.PublicKey().Bytes())
}

func otherSecret(seed string, hop int) string {
	return libraryHash([]byte("hop" + seed + string([]byte{byte(hop)})))
}

// otherHop is what the sender knows of one hop.
type otherHop struct{ public, key, tag, reply string }

func otherHopOf(t *testing.T, seed string, round, hop int, key string) otherHop {
	t.Helper()
	secret := otherSecret(seed, hop)
	all := otherDraw(t, libraryScalarMult(t, secret, key), round, "layer", 96)
	return otherHop{libraryPublic(t, secret), all[:32], all[32:64], all[64:]}
}

func otherHops(t *testing.T, seed string, round int, keys []string) []otherHop {
	t.Helper()
	var out []otherHop
	for hop, key := range keys {
		out = append(out, otherHopOf(t, seed, round, hop, key))
	}
	return out
}

func otherNonce(round int) string {
	return noughts(8) + string(binary.BigEndian.AppendUint32(nil, uint32(round)))
}

// otherForms are what an onion is at each hop, from the whole one to the payload; each is made of the one behind it.
func otherForms(round int, hops []otherHop, payload string) []string {
	if len(hops) == 0 {
		return []string{payload}
	}
	inner := otherForms(round, hops[1:], payload)
	box := otherBox(hops[0].key, otherNonce(round), []byte(hops[0].public), []byte(inner[0]))
	return append([]string{hops[0].public + string(box)}, inner...)
}

func otherOnion(t *testing.T, seed string, round int, keys []string, payload string) string {
	t.Helper()
	return otherForms(round, otherHops(t, seed, round, keys), payload)[0]
}

func secretOf(server int) string { return libraryHash(fmt.Append(nil, "server ", server)) }

func secretsOf(count int) []string {
	var out []string
	for server := range count {
		out = append(out, secretOf(server))
	}
	return out
}

func keysFor(t *testing.T, secrets []string) []string {
	t.Helper()
	var out []string
	for _, secret := range secrets {
		out = append(out, libraryPublic(t, secret))
	}
	return out
}

func layerCounts() []int { return []int{0, 1, 2, 3, 4} }

// payloadSizes are those at which a part or a block ends, and the greatest ones that so many layers leave room for.
func payloadSizes(layers int) []int {
	most := 400 - 48*layers
	return []int{0, 1, 15, 16, 17, 47, 48, 49, 63, 64, 65, most - 1, most}
}

func wrongLayers() []int { return append(farNumbers(), -1, 5, 6, 48, 400) }

func wrongSizes() []int { return append(farNumbers(), -1, 401, 448, 4096) }

func wantSize(t *testing.T, layers, size, want, wanted int) {
	t.Helper()
	if got, code := impl.OnionSize(layers, size); got != want || code != wanted {
		t.Errorf("OnionSize of %d, %d: %d, code %d; want %d, code %d", layers, size, got, code, want, wanted)
	}
}

func TestP9OnionSizes(t *testing.T) {
	for _, layers := range layerCounts() {
		for size := range 401 {
			want := size
			for range layers {
				want += 48
			}
			wantSize(t, layers, size, want, impl.OK)
		}
		for _, size := range wrongSizes() {
			wantSize(t, layers, size, 0, impl.ErrRange)
		}
	}
	for _, layers := range wrongLayers() {
		for _, size := range append(wrongSizes(), 0, 1, 400) {
			wantSize(t, layers, size, 0, impl.ErrRange)
		}
	}
}

// TestP9SizesBeyondAnItem: the size without its layers is bounded, the sum is not.
func TestP9SizesBeyondAnItem(t *testing.T) {
	for _, x := range []struct{ layers, size, want int }{
		{1, 352, 400}, {1, 353, 401}, {4, 208, 400}, {4, 209, 401}, {1, 400, 448}, {4, 400, 592}, {0, 400, 400}, {4, 0, 192},
	} {
		wantSize(t, x.layers, x.size, x.want, impl.OK)
	}
}

func wrongHops() []int { return append(farNumbers(), -1, 4, 5, 255, 256, 257) }

func TestP9HopSecrets(t *testing.T) {
	for _, seed := range someSeeds() {
		var met []string
		for hop := range 4 {
			got, code := impl.HopSecret(seed, hop)
			wantText(t, fmt.Sprintf("HopSecret of %x, %d", seed, hop), got, code, otherSecret(seed, hop))
			if got != hashOf("hop", seed, string([]byte{byte(hop)})) || slices.Contains(met, got) {
				t.Errorf("HopSecret of %x, %d: %x", seed, hop, got)
			}
			met = append(met, got)
		}
		for _, hop := range wrongHops() {
			got, code := impl.HopSecret(seed, hop)
			wantCode(t, fmt.Sprint("HopSecret, hop ", hop), got, code, impl.ErrRange)
		}
	}
}

// TestP9HopSecretsOfWrongSeeds: ErrBad comes ahead of ErrRange.
func TestP9HopSecretsOfWrongSeeds(t *testing.T) {
	for _, seed := range wrongLengths() {
		for _, hop := range append(wrongHops(), 0, 3) {
			got, code := impl.HopSecret(seed, hop)
			wantCode(t, fmt.Sprint("HopSecret of ", len(seed), " bytes, hop ", hop), got, code, impl.ErrBad)
		}
	}
}

func wantLayerKeys(t *testing.T, shared string, round int) {
	t.Helper()
	want := otherDraw(t, shared, round, "layer", 96)
	key, tag, reply, code := impl.LayerKeys(shared, round)
	if code != impl.OK || key != want[:32] || tag != want[32:64] || reply != want[64:] {
		t.Errorf("LayerKeys of %x, %d: %x, %x, %x, code %d; want %x", shared, round, key, tag, reply, code, want)
	}
}

func wantNoLayerKeys(t *testing.T, shared string, round, want int) {
	t.Helper()
	key, tag, reply, code := impl.LayerKeys(shared, round)
	wantCode(t, fmt.Sprint("LayerKeys of ", len(shared), " bytes, round ", round), key+tag+reply, code, want)
}

func TestP9LayerKeys(t *testing.T) {
	for _, shared := range pairSecrets() {
		for _, round := range pairRounds() {
			wantLayerKeys(t, shared, round)
		}
		for _, round := range wrongRounds() {
			wantNoLayerKeys(t, shared, round, impl.ErrRange)
		}
	}
	for _, shared := range wrongLengths() {
		for _, round := range append(wrongRounds(), pairRounds()...) {
			wantNoLayerKeys(t, shared, round, impl.ErrBad)
		}
	}
}

// TestP9LayerKeysByTheProgramsOwnHashes also asks that each of the three is 32 bytes long and has its own place.
func TestP9LayerKeysByTheProgramsOwnHashes(t *testing.T) {
	ok, shared := must(t), someKey()
	for _, round := range pairRounds() {
		by := ok(impl.Hmac(binary.BigEndian.AppendUint32(nil, uint32(round)), []byte(shared)))
		all := ok(impl.HkdfExpand(by, []byte("layer"), 96))
		key, tag, reply, code := impl.LayerKeys(shared, round)
		if code != impl.OK || key != all[:32] || tag != all[32:64] || reply != all[64:96] {
			t.Errorf("LayerKeys in round %d are not the three thirds, code %d", round, code)
		}
		if key == tag || tag == reply || key == reply {
			t.Errorf("two keys of a layer are alike in round %d", round)
		}
	}
}

func TestP9EachBitOfWhatIsSharedCounts(t *testing.T) {
	key, tag, reply, _ := impl.LayerKeys(someKey(), 5)
	for bit := range 256 {
		otherKey, otherTag, otherReply, code := impl.LayerKeys(flipped(someKey(), bit), 5)
		if code != impl.OK || key == otherKey || tag == otherTag || reply == otherReply {
			t.Error("does not count: bit", bit)
		}
	}
}

func wantOnion(t *testing.T, seed string, round int, keys []string, payload string) {
	t.Helper()
	call := fmt.Sprint("WrapOnion of ", len(keys), " keys, round ", round, ", ", len(payload), " bytes")
	onion, code := impl.WrapOnion(seed, round, keys, []byte(payload))
	wantText(t, call, string(onion), code, otherOnion(t, seed, round, keys, payload))
	wantSize(t, len(keys), len(payload), len(onion), impl.OK)
}

func wantNoOnion(t *testing.T, seed string, round int, keys []string, payload string, want int) {
	t.Helper()
	call := fmt.Sprint("WrapOnion by ", len(seed), " bytes, round ", round, ", ", len(keys), " keys, ", len(payload), " bytes")
	onion, code := impl.WrapOnion(seed, round, keys, []byte(payload))
	wantCode(t, call, string(onion), code, want)
}

func TestP9Onions(t *testing.T) {
	keys := keysFor(t, secretsOf(4))
	for _, layers := range layerCounts() {
		for _, size := range payloadSizes(layers) {
			wantOnion(t, someKey(), 7, keys[:layers], someText(size))
		}
		for _, seed := range someSeeds() {
			wantOnion(t, seed, 0x0a0b0c, keys[4-layers:], someText(10))
		}
		for _, round := range pairRounds() {
			wantOnion(t, someKey(), round, keys[:layers], someText(100))
		}
	}
}

// TestP9OnionsByTheProgramsOwn puts an onion together from the last layer to the first, of what the program itself has.
func TestP9OnionsByTheProgramsOwn(t *testing.T) {
	ok, seed := must(t), someKey()
	keys := keysFor(t, secretsOf(4))
	for _, layers := range layerCounts() {
		want := someBytes(33)
		for hop := layers - 1; hop >= 0; hop-- {
			secret := ok(impl.HopSecret(seed, hop))
			public := ok(impl.PublicKey(secret))
			key, _, _, _ := impl.LayerKeys(ok(impl.ScalarMult(secret, keys[hop])), 0x010203)
			box, code := impl.SealBox(key, noughts(8)+"\x00\x01\x02\x03", []byte(public), want)
			if code != impl.OK {
				t.Fatal("SealBox", code)
			}
			want = append([]byte(public), box...)
		}
		onion, code := impl.WrapOnion(seed, 0x010203, keys[:layers], someBytes(33))
		wantText(t, fmt.Sprint("WrapOnion of ", layers, " keys"), string(onion), code, string(want))
	}
}

// TestP9OnionsOfOneKeyTwice: each hop has a secret of its own, so that a server may stand in an onion more than once.
func TestP9OnionsOfOneKeyTwice(t *testing.T) {
	key := libraryPublic(t, secretOf(0))
	for _, layers := range layerCounts() {
		wantOnion(t, someKey(), 3, slices.Repeat([]string{key}, layers), "again")
		if left, n, code := impl.PeelAll(slices.Repeat([]string{secretOf(0)}, layers), 3, []byte(otherOnion(t, someKey(), 3, slices.Repeat([]string{key}, layers), "again"))); left != "again" || n != layers || code != impl.OK {
			t.Errorf("%d layers for one server: %q, %d, code %d", layers, left, n, code)
		}
	}
}

// TestP9OnionsOfKeysThatShareNought: WrapOnion goes up as ScalarMult, which knows no ErrZero.
func TestP9OnionsOfKeysThatShareNought(t *testing.T) {
	for _, u := range smallPoints() {
		wantOnion(t, someKey(), 3, []string{text32(u)}, "payload")
		wantOnion(t, someKey(), 3, []string{libraryPublic(t, secretOf(0)), text32(u), libraryPublic(t, secretOf(1))}, "payload")
	}
	for _, key := range wrongNumbers() {
		wantOnion(t, someKey(), 3, []string{key}, "payload")
	}
}

// TestP9OnionsWithTheHighestBitOfAKey: it falls off where a point is read.
func TestP9OnionsWithTheHighestBitOfAKey(t *testing.T) {
	keys := keysFor(t, secretsOf(2))
	want := otherOnion(t, someKey(), 3, keys, "payload")
	for i := range keys {
		other := slices.Clone(keys)
		other[i] = flipped(keys[i], 255)
		onion, code := impl.WrapOnion(someKey(), 3, other, []byte("payload"))
		wantText(t, "WrapOnion with the highest bit", string(onion), code, want)
	}
}

func TestP9OnionsDiffer(t *testing.T) {
	keys := keysFor(t, secretsOf(3))
	met := map[string]int{}
	for _, seed := range someSeeds() {
		for _, round := range []int{0, 1, 1000000} {
			for _, list := range [][]string{{keys[0], keys[1]}, {keys[1], keys[0]}, {keys[0], keys[2]}, {keys[2], keys[1]}} {
				onion, code := impl.WrapOnion(seed, round, list, []byte("payload"))
				if met[string(onion)]++; code != impl.OK || met[string(onion)] > 1 {
					t.Errorf("two onions are alike: %x, code %d", onion, code)
				}
			}
		}
	}
}

// TestP9OnionsOfMostBytes: of MaxItem bytes there is an onion, of one more there is none.
func TestP9OnionsOfMostBytes(t *testing.T) {
	keys := keysFor(t, secretsOf(4))
	for _, layers := range layerCounts() {
		most := 400 - 48*layers
		onion, code := impl.WrapOnion(someKey(), 7, keys[:layers], someBytes(most))
		if code != impl.OK || len(onion) != impl.MaxItem {
			t.Errorf("%d layers around %d bytes: %d bytes, code %d", layers, most, len(onion), code)
		}
		for _, size := range []int{most + 1, most + 47, most + 48, most + 49, 401, 4096, impl.MaxText} {
			wantNoOnion(t, someKey(), 7, keys[:layers], someText(size), impl.ErrRange)
		}
	}
}

// wrongKeyLists have at most four keys, one or all of which are of another length, however long.
func wrongKeyLists(key string) [][]string {
	var out [][]string
	for _, wrong := range append(wrongLengths(), longTexts()...) {
		out = append(out, []string{wrong}, []string{wrong, key}, []string{key, wrong}, []string{key, key, wrong, key}, []string{key, key, key, wrong}, slices.Repeat([]string{wrong}, 4))
	}
	return out
}

// manyLists have more elements than an onion has layers, right ones and wrong ones.
func manyLists(key string) [][]string {
	return [][]string{
		slices.Repeat([]string{key}, 5), slices.Repeat([]string{key}, 6), slices.Repeat([]string{key}, impl.MaxList),
		make([]string, 5), append(slices.Repeat([]string{key}, 4), "x"), append([]string{noughts(impl.MaxText + 1)}, slices.Repeat([]string{key}, 4)...),
	}
}

func TestP9OnionsOfWrongKeys(t *testing.T) {
	key := libraryPublic(t, secretOf(0))
	for _, keys := range wrongKeyLists(key) {
		for _, size := range []int{0, 1, 208, 209, 352, 353, 400, 401, impl.MaxText} {
			wantNoOnion(t, someKey(), 7, keys, noughts(size), impl.ErrBad)
		}
	}
	for _, keys := range manyLists(key) {
		for _, size := range []int{0, 401} {
			wantNoOnion(t, someKey(), 7, keys, noughts(size), impl.ErrRange)
		}
	}
}
