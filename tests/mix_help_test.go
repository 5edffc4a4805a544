package tests

import (
	"fmt"
	"slices"
	"testing"

	"loop.example/g00254/impl"
)

const mixRound = 7

// sent is an item with what whoever sent it knows of it; what does not open has no inside.
type sent struct {
	item  string
	opens bool
	p     impl.Peeled
}

// onionOf is of one layer for the first server, of a sender's seed of its own; its tag does not hang on the payload.
func onionOf(t *testing.T, sender int, payload string) sent {
	t.Helper()
	hops := otherHops(t, shareOf(sender), mixRound, keysFor(t, secretsOf(1)))
	return sent{otherForms(mixRound, hops, payload)[0], true, impl.Peeled{Inner: payload, Tag: hops[0].tag, Reply: hops[0].reply}}
}

func payloadOf(sender int) string { return fmt.Sprint("payload of ", sender) }

func onionsOf(t *testing.T, senders ...int) []sent {
	t.Helper()
	var out []sent
	for _, sender := range senders {
		out = append(out, onionOf(t, sender, payloadOf(sender)))
	}
	return out
}

func notOpening(items ...string) []sent {
	var out []sent
	for _, item := range items {
		out = append(out, sent{item: item})
	}
	return out
}

func itemsOf(list []sent) []string {
	var out []string
	for _, s := range list {
		out = append(out, s.item)
	}
	return out
}

func tagsOf(list []sent) []string {
	var out []string
	for _, s := range list {
		out = append(out, s.p.Tag)
	}
	return out
}

func noiseItems(count int) []string {
	var out []string
	for i := range count {
		out = append(out, fmt.Sprint("noise ", i))
	}
	return out
}

func oldTags(count int) []string {
	var out []string
	for i := range count {
		out = append(out, libraryHash(fmt.Append(nil, "old tag ", i)))
	}
	return out
}

// otherMix counts how often each tag was there; what comes for the first time goes on.
func otherMix(list []sent, noise, seen []string, words []int) (impl.MixOut, int) {
	before := impl.MixOut{Seen: slices.Clone(seen)}
	times := map[string]int{}
	for _, tag := range seen {
		times[tag]++
	}
	for from, s := range list {
		times[s.p.Tag]++
		if !s.opens {
			before.Bad++
		} else if times[s.p.Tag] > 1 {
			before.Again++
		} else {
			before.Seen = append(before.Seen, s.p.Tag)
			before.Items, before.Replies, before.From = append(before.Items, s.p.Inner), append(before.Replies, s.p.Reply), append(before.From, from)
		}
	}
	for _, item := range noise {
		before.Items, before.Replies, before.From = append(before.Items, item), append(before.Replies, ""), append(before.From, -1)
	}
	if len(before.Items) == 0 {
		return before, impl.OK
	}
	order, _, code := otherShuffle(words, len(before.Items))
	if code != impl.OK {
		return impl.MixOut{}, code
	}
	after := impl.MixOut{Seen: before.Seen, Bad: before.Bad, Again: before.Again}
	for _, number := range order {
		after.Items = append(after.Items, before.Items[number])
		after.Replies = append(after.Replies, before.Replies[number])
		after.From = append(after.From, before.From[number])
	}
	return after, impl.OK
}

func sameMix(x, y impl.MixOut) bool {
	return slices.Equal(x.Items, y.Items) && slices.Equal(x.Replies, y.Replies) && slices.Equal(x.From, y.From) &&
		slices.Equal(x.Seen, y.Seen) && x.Bad == y.Bad && x.Again == y.Again
}

// mixTold is the empty text of a mix that is zero, as it comes beside a code.
func mixTold(x impl.MixOut) string {
	return toldUnlessZero(sameMix(x, impl.MixOut{}), fmt.Sprintf("items %q, replies %x, from %v, %d seen %x, %d bad, %d again", x.Items, x.Replies, x.From, len(x.Seen), x.Seen, x.Bad, x.Again))
}

func copyOfMix(x impl.MixOut) impl.MixOut {
	x.Items, x.Replies, x.From, x.Seen = slices.Clone(x.Items), slices.Clone(x.Replies), slices.Clone(x.From), slices.Clone(x.Seen)
	return x
}

func wantMix(t *testing.T, call string, list []sent, noise, seen []string, words []int) impl.MixOut {
	t.Helper()
	want, wanted := otherMix(list, noise, seen, words)
	x, code := impl.MixItems(secretOf(0), mixRound, itemsOf(list), noise, seen, words)
	if code != wanted || !sameMix(x, want) {
		t.Errorf("MixItems, %s, %d items, %d noise, %d seen, %d words: %.900s, code %d; want %.900s, code %d",
			call, len(list), len(noise), len(seen), len(words), mixTold(x), code, mixTold(want), wanted)
	}
	return x
}

func wantNoMix(t *testing.T, secret string, round int, items, noise, seen []string, words []int, want int) {
	t.Helper()
	if x, code := impl.MixItems(secret, round, items, noise, seen, words); code != want || mixTold(x) != "" {
		t.Errorf("MixItems by %d bytes, round %d, %d items %s, %d noise %s, %d seen, %d words %s: %.300s, code %d; want nothing, code %d",
			len(secret), round, len(items), told(items), len(noise), told(noise), len(seen), len(words), told(words), mixTold(x), code, want)
	}
}

// otherBack looks for each place in From.
func otherBack(x impl.MixOut, count int, bodies []string) []string {
	var out []string
	for place := range count {
		body := ""
		if i := slices.Index(x.From, place); i >= 0 {
			body = string(otherReply(x.Replies[i:i+1], []byte(bodies[i])))
		}
		out = append(out, body)
	}
	return out
}

func rightWaysBack(x impl.MixOut, count int) bool {
	times := map[int]int{}
	for i, from := range x.From {
		times[from]++
		if from != -1 && (!within(from, count-1) || times[from] > 1 || len(x.Replies[i]) != 32) {
			return false
		}
	}
	return true
}

func wantBack(t *testing.T, x impl.MixOut, count int, bodies []string) []string {
	t.Helper()
	back, code := impl.RouteBack(x, count, bodies)
	if want := otherBack(x, count, bodies); code != impl.OK || !slices.Equal(back, want) {
		t.Errorf("RouteBack of %d items from %v: %q, code %d; want %q", count, x.From, back, code, want)
	}
	return back
}

func wantNoBack(t *testing.T, x impl.MixOut, count int, bodies []string, want int) {
	t.Helper()
	if back, code := impl.RouteBack(x, count, bodies); code != want || len(back) != 0 {
		t.Errorf("RouteBack of %d items from %s, %d replies %s, %d bodies: %s, code %d; want nothing, code %d",
			count, told(x.From), len(x.Replies), told(x.Replies), len(bodies), told(back), code, want)
	}
}
