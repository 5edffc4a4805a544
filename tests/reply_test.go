package tests

import (
	"fmt"
	"slices"
	"testing"

	"loop.example/g00254/impl"
)

func wantReplyKeys(t *testing.T, seed string, round int, keys []string) {
	t.Helper()
	var want []string
	for _, h := range otherHops(t, seed, round, keys) {
		want = append(want, h.reply)
	}
	if got, code := impl.ReplyKeys(seed, round, keys); code != impl.OK || !slices.Equal(got, want) {
		t.Errorf("ReplyKeys of %d keys, round %d: %x, code %d; want %x", len(keys), round, got, code, want)
	}
}

func wantNoReplyKeys(t *testing.T, seed string, round int, keys []string, want int) {
	t.Helper()
	if got, code := impl.ReplyKeys(seed, round, keys); code != want || len(got) != 0 {
		t.Errorf("ReplyKeys by %d bytes, round %d, %d keys: %x, code %d; want nothing, code %d", len(seed), round, len(keys), got, code, want)
	}
}

func TestP9ReplyKeys(t *testing.T) {
	keys := keysFor(t, secretsOf(4))
	for _, layers := range layerCounts() {
		for _, seed := range someSeeds() {
			for _, round := range pairRounds() {
				wantReplyKeys(t, seed, round, keys[:layers])
			}
		}
		wantReplyKeys(t, someKey(), 7, keys[4-layers:])
	}
	for _, u := range smallPoints() {
		wantReplyKeys(t, someKey(), 7, []string{keys[0], text32(u)})
	}
}

// TestP9ReplyKeysAreTheServers: each server has by peeling what the sender has without.
func TestP9ReplyKeysAreTheServers(t *testing.T) {
	for _, layers := range layerCounts() {
		secrets := secretsOf(layers)
		keys := keysFor(t, secrets)
		replies, code := impl.ReplyKeys(someKey(), 7, keys)
		if code != impl.OK || len(replies) != layers {
			t.Fatalf("%d reply keys of %d layers, code %d", len(replies), layers, code)
		}
		for _, size := range []int{0, 1, 208} {
			onion, _ := impl.WrapOnion(someKey(), 7, keys, someBytes(size))
			for hop, secret := range secrets {
				p, code := impl.PeelOnion(secret, 7, onion)
				if code != impl.OK || p.Reply != replies[hop] || len(p.Reply) != 32 {
					t.Errorf("hop %d of %d: %x, code %d; want %x", hop, layers, p.Reply, code, replies[hop])
				}
				onion = []byte(p.Inner)
			}
		}
	}
}

// TestP9ReplyKeysCodes are those of WrapOnion without a payload.
func TestP9ReplyKeysCodes(t *testing.T) {
	key := libraryPublic(t, secretOf(0))
	for _, keys := range append(wrongKeyLists(key), manyLists(key)...) {
		for _, round := range []int{-1, 0, 7, 1000000, 1000001} {
			_, want := impl.WrapOnion(someKey(), round, keys, nil)
			if want == impl.OK {
				t.Fatalf("WrapOnion of %s", told(keys))
			}
			wantNoReplyKeys(t, someKey(), round, keys, want)
			for _, seed := range wrongLengths() {
				wantNoReplyKeys(t, seed, round, keys, impl.ErrBad)
			}
		}
		wantNoReplyKeys(t, someKey(), -1, keys, impl.ErrRange)
	}
	for _, keys := range wrongKeyLists(key) {
		wantNoReplyKeys(t, someKey(), 7, keys, impl.ErrBad)
	}
	for _, keys := range manyLists(key) {
		wantNoReplyKeys(t, someKey(), 7, keys, impl.ErrRange)
	}
	for _, round := range wrongRounds() {
		wantNoReplyKeys(t, someKey(), round, []string{key}, impl.ErrRange)
		wantNoReplyKeys(t, someKey(), round, nil, impl.ErrRange)
	}
	for _, seed := range wrongLengths() {
		wantNoReplyKeys(t, seed, 7, []string{key}, impl.ErrBad)
		wantNoReplyKeys(t, seed, 7, nil, impl.ErrBad)
	}
}

func replySizes() []int { return []int{0, 1, 2, 63, 64, 65, 127, 128, 129, 400, 401, 4096} }

func TestP9WrapReply(t *testing.T) {
	for _, key := range someSeeds() {
		for _, size := range append(replySizes(), impl.MaxText-1, impl.MaxText) {
			call, b := fmt.Sprintf("WrapReply by %x of %d bytes", key, size), someBytes(size)
			got, code := impl.WrapReply(key, b)
			wantText(t, call, string(got), code, string(otherXor(key, noughts(12), 0, b)))
			own, _ := impl.StreamXor(key, noughts(12), 0, b)
			wantText(t, call, string(got), code, string(own))
			again, code := impl.WrapReply(key, got)
			wantText(t, call+", twice", string(again), code, string(b))
		}
	}
}

// TestP9WrapReplyBeginsWithBlockNought: of noughts it is the stream itself, from counter 0 on.
func TestP9WrapReplyBeginsWithBlockNought(t *testing.T) {
	ok, key := must(t), someKey()
	want := ok(impl.StreamBlock(key, noughts(12), 0)) + ok(impl.StreamBlock(key, noughts(12), 1))
	got, code := impl.WrapReply(key, make([]byte, 128))
	wantText(t, "WrapReply of noughts", string(got), code, want)
}

func TestP9WrapReplyOfWrongKeys(t *testing.T) {
	for _, key := range wrongLengths() {
		for _, size := range append(replySizes(), impl.MaxText) {
			got, code := impl.WrapReply(key, someBytes(size))
			wantCode(t, fmt.Sprint("WrapReply by ", len(key), " bytes of ", size), string(got), code, impl.ErrBad)
		}
	}
}

func otherReply(keys []string, b []byte) []byte {
	for _, key := range keys {
		b = otherXor(key, noughts(12), 0, b)
	}
	return b
}

func wantReply(t *testing.T, call string, keys []string, b []byte, want string) {
	t.Helper()
	got, code := impl.OpenReply(keys, b)
	wantText(t, fmt.Sprint("OpenReply ", call, " by ", len(keys), " keys of ", len(b), " bytes"), string(got), code, want)
}

func wantNoReply(t *testing.T, keys []string, b []byte, want int) {
	t.Helper()
	got, code := impl.OpenReply(keys, b)
	wantCode(t, fmt.Sprint("OpenReply by ", len(keys), " keys of ", len(b), " bytes"), string(got), code, want)
}

func TestP9OpenReply(t *testing.T) {
	for _, layers := range layerCounts() {
		for _, size := range append(replySizes(), impl.MaxText) {
			keys, b := sharesOf(layers), someBytes(size)
			wantReply(t, "of others", keys, otherReply(keys, b), string(b))
			wantReply(t, "of what nobody put on", keys, b, string(otherReply(keys, b)))
		}
	}
	b := someBytes(100)
	wantReply(t, "by one key twice", []string{someKey(), someKey()}, b, string(b))
	wantReply(t, "by one key three times", slices.Repeat([]string{someKey()}, 3), b, string(otherXor(someKey(), noughts(12), 0, b)))
}

// TestP9WhatIsPutOnIsTakenOff: servers put on an answer, from the last one to the first; the sender's keys take it off in
// whatever order.
func TestP9WhatIsPutOnIsTakenOff(t *testing.T) {
	for _, layers := range layerCounts() {
		secrets := secretsOf(layers)
		keys := keysFor(t, secrets)
		onion, _ := impl.WrapOnion(someKey(), 7, keys, []byte("payload"))
		var servers []string
		for _, secret := range secrets {
			p, _ := impl.PeelOnion(secret, 7, onion)
			servers, onion = append(servers, p.Reply), []byte(p.Inner)
		}
		replies, _ := impl.ReplyKeys(someKey(), 7, keys)
		for _, size := range replySizes() {
			answer := someBytes(size)
			for _, key := range slices.Backward(servers) {
				answer, _ = impl.WrapReply(key, answer)
			}
			for _, order := range ordersOf(replies) {
				wantReply(t, "in some order", order, answer, someText(size))
			}
		}
	}
}

// TestP9RepliesOfAnotherKey: with a key less, or another one, it is not what was put on.
func TestP9RepliesOfAnotherKey(t *testing.T) {
	keys, b := sharesOf(3), someBytes(100)
	answer := otherReply(keys, b)
	for _, other := range [][]string{nil, keys[:2], keys[1:], {keys[0], keys[2]}, {keys[0], keys[1], shareOf(9)}, append(slices.Clone(keys), shareOf(9))} {
		got, code := impl.OpenReply(other, answer)
		wantText(t, "OpenReply by other keys", string(got), code, string(otherReply(other, answer)))
		if string(got) == string(b) {
			t.Errorf("OpenReply by %d other keys opens it", len(other))
		}
	}
}

// TestP9OpenReplyCodes: ErrRange comes ahead of ErrBad.
func TestP9OpenReplyCodes(t *testing.T) {
	for _, size := range append(replySizes(), impl.MaxText) {
		for _, keys := range manyLists(someKey()) {
			wantNoReply(t, keys, someBytes(size), impl.ErrRange)
		}
		for _, keys := range wrongKeyLists(someKey()) {
			wantNoReply(t, keys, someBytes(size), impl.ErrBad)
		}
	}
}
