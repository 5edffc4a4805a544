package tests

import (
	"fmt"
	"slices"
	"testing"

	"loop.example/g00254/impl"
)

func TestP12MixWrittenOut(t *testing.T) {
	list := onionsOf(t, 1, 2, 3)
	one, two, three := list[0], list[1], list[2]
	items := []string{one.item, "bad", two.item, one.item, three.item}
	// one, two, three, noise: 3 and 1 are exchanged, then 2 and 0, then 1 stays
	x, code := impl.MixItems(secretOf(0), mixRound, items, []string{"noise"}, []string{"old", three.p.Tag + "x"}, []int{1, 0, 1})
	want := impl.MixOut{
		Items:   []string{payloadOf(3), "noise", payloadOf(1), payloadOf(2)},
		Replies: []string{three.p.Reply, "", one.p.Reply, two.p.Reply},
		From:    []int{4, -1, 0, 2},
		Seen:    []string{"old", three.p.Tag + "x", one.p.Tag, two.p.Tag, three.p.Tag},
		Bad:     1,
		Again:   1,
	}
	if code != impl.OK || !sameMix(x, want) {
		t.Errorf("MixItems: %s, code %d; want %s", mixTold(x), code, mixTold(want))
	}
}

// TestP12MixAsPeelOnion holds the program against itself: what goes on is what PeelOnion answers.
func TestP12MixAsPeelOnion(t *testing.T) {
	secret := secretOf(0)
	key, _ := impl.PublicKey(secret)
	var items []string
	for sender := range 16 {
		onion, code := impl.WrapOnion(shareOf(sender), 3, []string{key}, someBytes(20*sender))
		if code != impl.OK {
			t.Fatal("WrapOnion", code)
		}
		items = append(items, string(onion))
	}
	words, _ := impl.Words(someKey(), 100)
	x, code := impl.MixItems(secret, 3, items, nil, nil, words)
	order, _, _ := impl.ShuffleOf(words, 16)
	if code != impl.OK || len(x.Items) != 16 || !slices.Equal(x.From, order) {
		t.Fatalf("MixItems: %s, code %d; order %v", mixTold(x), code, order)
	}
	for place, from := range x.From {
		p, _ := impl.PeelOnion(secret, 3, []byte(items[from]))
		if x.Items[place] != p.Inner || x.Items[place] != someText(20*from) || x.Replies[place] != p.Reply || x.Seen[from] != p.Tag {
			t.Errorf("what came from %d is not what was peeled", from)
		}
	}
}

// mixKinds are batches of all kinds: what opens, what does not, what comes again, what was seen ahead.
func mixKinds(t *testing.T) map[string][]sent {
	good := onionsOf(t, numbersUpTo(16)...)
	bad := notOpening("", "bad", someText(47), someText(48), someText(400))
	alike := append(slices.Clone(good[:8]), good[:8]...)
	mixed := slices.Concat(good[:3], bad[:2], good[1:4], bad[2:], good[5:7])
	return map[string][]sent{
		"none":                  nil,
		"one":                   good[:1],
		"two":                   good[:2],
		"three":                 good[:3],
		"five":                  good[:5],
		"sixteen":               good,
		"one that's bad":        bad[:1],
		"all bad":               bad,
		"sixteen bad":           slices.Concat(bad, bad, bad, bad[:1]),
		"bad ahead":             append(slices.Clone(bad), good[:4]...),
		"bad behind":            append(slices.Clone(good[:4]), bad...),
		"one twice":             {good[0], good[0]},
		"one sixteen times":     slices.Repeat(good[:1], 16),
		"all twice":             alike,
		"some twice, some bad":  mixed,
		"turned round":          turnedRound(good),
		"tags seen ahead":       onionsOf(t, 100, 101, 1, 102),
		"seen ahead and twice":  onionsOf(t, 100, 1, 100, 1, 2, 102, 2),
		"bad between the parts": slices.Concat(good[:3], bad[:2], good[3:6], bad[:2], good[6:9]),
	}
}

func turnedRound[T any](list []T) []T {
	out := slices.Clone(list)
	slices.Reverse(out)
	return out
}

func mixWords() [][]int {
	return [][]int{nil, {1}, {0, 0}, make([]int, 15), slices.Repeat([]int{65535}, 40), otherWords(someKey(), 30), otherWords(shareOf(3), 2000)}
}

func TestP12MixOfAllKinds(t *testing.T) {
	ahead := tagsOf(onionsOf(t, 100, 101, 102))
	for name, list := range mixKinds(t) {
		for _, noise := range []int{0, 1, 2, 16 - len(list)} {
			if noise < 0 || noise+len(list) > 16 {
				continue
			}
			for _, words := range mixWords() {
				wantMix(t, name, list, noiseItems(noise), append(oldTags(2), ahead...), words)
			}
			wantMix(t, name+", nothing seen", list, noiseItems(noise), nil, otherWords(someKey(), 40))
		}
	}
}

// TestP12MixOfEachNumber: all numbers of items and of noise that may come together.
func TestP12MixOfEachNumber(t *testing.T) {
	good, words := onionsOf(t, numbersUpTo(16)...), otherWords(someKey(), 100)
	for count := range 17 {
		for noise := range 17 - count {
			x := wantMix(t, "right ones", good[:count], noiseItems(noise), nil, words)
			if len(x.Items) != count+noise || len(x.Replies) != count+noise || len(x.From) != count+noise || len(x.Seen) != count {
				t.Errorf("%d items and %d noise: %s", count, noise, mixTold(x))
			}
		}
	}
}

// wantOnce asks of a mix what P12 promises of it, whatever its order: each of what is right and new once, and all noise.
func wantOnce(t *testing.T, x impl.MixOut, list []sent, noise []string) {
	t.Helper()
	var going, want []string
	for place, item := range x.Items {
		from, reply := x.From[place], x.Replies[place]
		if from == -1 && reply != "" || from != -1 && (list[from].p.Reply != reply || list[from].p.Inner != item) {
			t.Errorf("place %d: %q from %d with another reply key, or another item", place, item, from)
		}
		going = append(going, item)
	}
	senders := map[string]int{}
	for _, s := range list {
		senders[s.p.Inner]++
		if senders[s.p.Inner] == 1 {
			want = append(want, s.p.Inner)
		}
	}
	want = append(want, noise...)
	slices.Sort(going)
	slices.Sort(want)
	if !slices.Equal(going, want) || x.Again != len(list)+len(noise)-len(want) {
		t.Errorf("%q goes on, %d again; want %q", going, x.Again, want)
	}
}

func TestP12WhatIsNewGoesOnOnce(t *testing.T) {
	for _, senders := range [][]int{{}, {1}, {1, 1}, {1, 2, 1, 2}, {5, 5, 5, 6}, {1, 2, 3, 4, 5, 6, 7, 8, 9, 10, 11, 12}, {3, 1, 4, 1, 5, 9, 2, 6, 5, 3, 5, 8}} {
		list, noise := onionsOf(t, senders...), noiseItems(4)
		for seed := range 10 {
			x, code := impl.MixItems(secretOf(0), mixRound, itemsOf(list), noise, nil, otherWords(shareOf(seed), 60))
			if code != impl.OK {
				t.Fatal("MixItems", code)
			}
			wantOnce(t, x, list, noise)
		}
	}
}

// badItems do not open for the first server in the round, each for a reason of its own.
func badItems(t *testing.T) map[string]string {
	good := onionOf(t, 1, "payload").item
	keys := keysFor(t, secretsOf(2))
	return map[string]string{
		"nothing":                    "",
		"one byte":                   "x",
		"a layer less a byte":        good[:47],
		"a layer of noughts":         noughts(48),
		"a beginning":                good[:len(good)-1],
		"a nought behind":            good + "\x00",
		"a nought ahead":             "\x00" + good,
		"as long as may be":          someText(400),
		"of another server":          otherOnion(t, shareOf(1), mixRound, keys[1:], "payload"),
		"of the round ahead":         otherOnion(t, shareOf(1), mixRound-1, keys[:1], "payload"),
		"of the round behind":        otherOnion(t, shareOf(1), mixRound+1, keys[:1], "payload"),
		"a bit of the public key":    flipped(good, 3),
		"the public key's last bit":  flipped(good, 255),
		"a bit of what is sealed":    flipped(good, 8*32+1),
		"a bit of the tag":           flipped(good, 8*len(good)-1),
		"of the second server first": otherOnion(t, shareOf(1), mixRound, []string{keys[1], keys[0]}, "payload"),
	}
}

// TestP12MixOfBadItems: a bad item is counted, nothing of it is seen, and what is right goes on beside it.
func TestP12MixOfBadItems(t *testing.T) {
	good := onionsOf(t, 1, 2)
	for name, item := range badItems(t) {
		bad := notOpening(item)
		wantMix(t, name+" alone", bad, nil, nil, nil)
		wantMix(t, name+" twice", append(bad, bad...), nil, oldTags(1), nil)
		for at := range 3 {
			list := slices.Insert(slices.Clone(good), at, bad...)
			if x := wantMix(t, fmt.Sprint(name, " at ", at), list, nil, nil, []int{1}); x.Bad != 1 || x.Again != 0 || len(x.Seen) != 2 {
				t.Errorf("%s: %s", name, mixTold(x))
			}
		}
	}
}

func TestP12MixOfOtherRoundsAndServers(t *testing.T) {
	for _, round := range pairRounds() {
		onion := otherOnion(t, shareOf(1), round, keysFor(t, secretsOf(1)), "payload")
		for _, other := range pairRounds() {
			x, code := impl.MixItems(secretOf(0), other, []string{onion}, nil, nil, nil)
			if opens := other == round; code != impl.OK || len(x.Items) != 1-x.Bad || opens != (x.Bad == 0) {
				t.Errorf("an onion of round %d in round %d: %s, code %d", round, other, mixTold(x), code)
			}
		}
		x, code := impl.MixItems(secretOf(1), round, []string{onion}, nil, nil, nil)
		if code != impl.OK || x.Bad != 1 || len(x.Items)+len(x.Seen) != 0 {
			t.Errorf("an onion of another server: %s, code %d", mixTold(x), code)
		}
	}
}

// TestP12MixOfWhatWasSeen: the tag may stand anywhere among those of before.
func TestP12MixOfWhatWasSeen(t *testing.T) {
	list := onionsOf(t, 1, 2, 3)
	for at := range 64 {
		seen := oldTags(64)
		seen[at] = list[1].p.Tag
		x := wantMix(t, fmt.Sprint("seen at ", at), list, nil, seen, []int{0})
		if x.Again != 1 || len(x.Seen) != 66 || !slices.Equal(x.Seen[:64], seen) {
			t.Errorf("seen at %d: %s", at, mixTold(x))
		}
	}
}

// TestP12NearTagsAreNotTheTag: tags are held against each other as a whole.
func TestP12NearTagsAreNotTheTag(t *testing.T) {
	list := onionsOf(t, 1)
	tag := list[0].p.Tag
	near := []string{"", tag[:31], tag[1:], tag + "\x00", "\x00" + tag, flipped(tag, 0), flipped(tag, 255), list[0].p.Reply, list[0].p.Inner, list[0].item, someText(impl.MaxText + 1)}
	x := wantMix(t, "near tags", list, nil, near, nil)
	if x.Again != 0 || len(x.Seen) != len(near)+1 {
		t.Errorf("near tags: %s", mixTold(x))
	}
	wantMix(t, "near tags and the tag", list, nil, append(near, tag), nil)
}

// TestP12MixOfAllThatWasSeen: what went through once does not go on in a later call that is told of it.
func TestP12MixOfAllThatWasSeen(t *testing.T) {
	list := onionsOf(t, numbersUpTo(16)...)
	words := otherWords(someKey(), 60)
	first := wantMix(t, "at first", list, nil, nil, words)
	second := wantMix(t, "then", list, nil, first.Seen, nil)
	if second.Again != 16 || len(second.Items) != 0 || !slices.Equal(second.Seen, first.Seen) {
		t.Errorf("all was seen: %s", mixTold(second))
	}
	half, _ := impl.MixItems(secretOf(0), mixRound, itemsOf(list[:8]), nil, nil, words)
	rest := wantMix(t, "one half behind the other", list, nil, half.Seen, words)
	if rest.Again != 8 || len(rest.Items) != 8 || !slices.Equal(rest.Seen, first.Seen) {
		t.Errorf("one half was seen: %s", mixTold(rest))
	}
	// without what was seen all of it goes on again: nothing is kept from call to call
	wantMix(t, "without what was seen", list, nil, nil, words)
}

// TestP12OneTagOfTwoItems: the tag is of the seed and the round, so that another payload of the same seed comes again.
func TestP12OneTagOfTwoItems(t *testing.T) {
	first, second := onionOf(t, 1, "first"), onionOf(t, 1, "second, and longer")
	if first.p.Tag != second.p.Tag || first.item == second.item {
		t.Fatal("two items of one tag are asked for")
	}
	x := wantMix(t, "one tag", []sent{first, second}, nil, nil, nil)
	if x.Again != 1 || !slices.Equal(x.Items, []string{"first"}) {
		t.Errorf("one tag: %s", mixTold(x))
	}
	x = wantMix(t, "one tag, the other way round", []sent{second, first}, nil, nil, nil)
	if x.Again != 1 || !slices.Equal(x.Items, []string{"second, and longer"}) {
		t.Errorf("one tag, the other way round: %s", mixTold(x))
	}
	alike := []sent{onionOf(t, 1, "alike"), onionOf(t, 2, "alike")}
	if x = wantMix(t, "two tags of one payload", alike, nil, nil, []int{1}); x.Again != 0 || len(x.Items) != 2 {
		t.Errorf("two tags of one payload: %s", mixTold(x))
	}
}

// TestP12AgainInAnotherPart: the second one may be peeled beside the first, or long behind it.
func TestP12AgainInAnotherPart(t *testing.T) {
	good, words := onionsOf(t, numbersUpTo(16)...), otherWords(someKey(), 100)
	for first := range 16 {
		for second := first + 1; second < 16; second++ {
			list := slices.Clone(good)
			list[second] = list[first]
			x := wantMix(t, fmt.Sprint(first, " again at ", second), list, nil, nil, words)
			if x.Again != 1 || slices.Contains(x.From, second) || !slices.Contains(x.From, first) {
				t.Errorf("%d again at %d: %s", first, second, mixTold(x))
			}
		}
	}
}

// TestP12BadAheadOfItsRightOne: what did not open is not seen.
func TestP12BadAheadOfItsRightOne(t *testing.T) {
	good := onionOf(t, 1, "payload")
	list := []sent{{item: flipped(good.item, 8*40)}, good, {item: flipped(good.item, 8*40)}, good}
	x := wantMix(t, "spoilt ones beside it", list, nil, nil, nil)
	if x.Bad != 2 || x.Again != 1 || !slices.Equal(x.From, []int{1}) {
		t.Errorf("spoilt ones beside it: %s", mixTold(x))
	}
}

// TestP12NoiseGoesOnAsItIs: also if it is an onion, comes twice, is what an item has inside, or is a tag that was seen.
func TestP12NoiseGoesOnAsItIs(t *testing.T) {
	list := onionsOf(t, 1, 2)
	words := otherWords(someKey(), 60)
	for name, noise := range map[string][]string{
		"one":           {"noise"},
		"alike":         {"noise", "noise", "noise"},
		"empty":         {"", ""},
		"onions":        {list[0].item, list[1].item, onionOf(t, 3, "x").item},
		"insides":       {payloadOf(1), payloadOf(2)},
		"tags":          {list[0].p.Tag, list[1].p.Tag},
		"of all sizes":  {"", "x", someText(47), someText(48), someText(399), someText(400)},
		"fourteen":      noiseItems(14),
		"fourteen long": slices.Repeat([]string{someText(400)}, 14),
	} {
		x := wantMix(t, name, list, noise, nil, words)
		if x.Bad+x.Again != 0 || len(x.Items) != 2+len(noise) || len(x.Seen) != 2 {
			t.Errorf("%s: %s", name, mixTold(x))
		}
		wantMix(t, name+", without items", nil, noise, nil, words)
		wantMix(t, name+", with tags", nil, noise, tagsOf(list), words)
	}
	for count := range 17 {
		x := wantMix(t, "alone", nil, noiseItems(count), oldTags(1), words)
		if len(x.Items) != count || slices.ContainsFunc(x.From, func(from int) bool { return from != -1 }) {
			t.Errorf("noise alone: %s", mixTold(x))
		}
	}
}

func TestP12MixOfTheLeastAndTheMostInside(t *testing.T) {
	for _, size := range []int{0, 1, 47, 48, 351, 352} {
		list := []sent{onionOf(t, 1, someText(size)), onionOf(t, 2, noughts(size))}
		wantMix(t, fmt.Sprint(size, " bytes inside"), list, nil, nil, []int{0})
	}
}

// TestP12MixInEachOrder: the words are the choices, so that each order comes.
func TestP12MixInEachOrder(t *testing.T) {
	list, noise := onionsOf(t, 1, 2, 3), []string{"noise"}
	orders := map[string]int{}
	eachChoices(4, func(choices []int) {
		x := wantMix(t, fmt.Sprint("choices ", choices), list, noise, nil, choices)
		orders[fmt.Sprint(x.From)]++
		order, _ := impl.PermOf(choices)
		for place, number := range order {
			if want := []string{payloadOf(1), payloadOf(2), payloadOf(3), "noise"}[number]; x.Items[place] != want {
				t.Errorf("choices %v: %q at %d; want %q", choices, x.Items[place], place, want)
			}
		}
	})
	if len(orders) != 24 {
		t.Errorf("%d orders of four", len(orders))
	}
}

// TestP12MixTakesWordsForWhatGoesOn: not for what is bad or comes again.
func TestP12MixTakesWordsForWhatGoesOn(t *testing.T) {
	good := onionsOf(t, numbersUpTo(8)...)
	for going := range 9 {
		list := append(slices.Clone(good[:going]), notOpening("bad", "worse")...)
		for _, again := range [][]sent{nil, good[:min(going, 3)]} {
			for noise := range 4 {
				all := append(slices.Clone(list), again...)
				needed := max(0, going+noise-1)
				for _, few := range []int{0, 1, needed - 2, needed - 1} {
					if few >= 0 && few < needed {
						wantNoMix(t, secretOf(0), mixRound, itemsOf(all), noiseItems(noise), nil, make([]int, few), impl.ErrMissing)
						wantNoMix(t, secretOf(0), mixRound, itemsOf(all), noiseItems(noise), oldTags(3), make([]int, few), impl.ErrMissing)
					}
				}
				for _, enough := range []int{needed, needed + 1, 2000} {
					wantMix(t, "words enough", all, noiseItems(noise), nil, make([]int, enough))
				}
			}
		}
	}
}

// TestP12MixPassesWordsOver: 65535 is above the greatest multiple of 3, 5, 6 and 7, and none of 4 or 2.
func TestP12MixPassesWordsOver(t *testing.T) {
	for _, count := range []int{2, 3, 4, 5, 6, 7, 16} {
		list := onionsOf(t, numbersUpTo(count)...)
		for _, words := range [][]int{
			slices.Repeat([]int{65535}, count-1), slices.Repeat([]int{65535}, 2000), append([]int{65535}, make([]int, count-2)...),
			append([]int{65535}, make([]int, count-1)...), slices.Repeat([]int{65535, 1}, count), slices.Repeat([]int{65535, 65534, 0}, count),
		} {
			wantMix(t, "words passed over", list, nil, nil, words)
		}
	}
}

// TestP12MixOfNothing: no words are asked for where nothing goes on, nor for one alone.
func TestP12MixOfNothing(t *testing.T) {
	for _, words := range mixWords() {
		for _, seen := range [][]string{nil, {""}, oldTags(1), oldTags(64), {"twice", "twice"}} {
			x := wantMix(t, "nothing at all", nil, nil, seen, words)
			if len(x.Items)+len(x.Replies)+len(x.From)+x.Bad+x.Again != 0 || !slices.Equal(x.Seen, seen) {
				t.Errorf("nothing at all: %s", mixTold(x))
			}
			wantMix(t, "one noise", nil, noiseItems(1), seen, words)
			wantMix(t, "one item", onionsOf(t, 1), nil, seen, words)
			wantMix(t, "bad ones", notOpening("bad", ""), nil, seen, words)
		}
	}
}

// TestP12MixSeesBehindTheOthers: in the order in which items came in, whatever the order in which they go on.
func TestP12MixSeesBehindTheOthers(t *testing.T) {
	list := onionsOf(t, 3, 1, 2, 1, 5)
	want := append(oldTags(5), list[0].p.Tag, list[1].p.Tag, list[2].p.Tag, list[4].p.Tag)
	eachChoices(4, func(words []int) {
		if x := wantMix(t, "seen", list, nil, oldTags(5), words); !slices.Equal(x.Seen, want) {
			t.Errorf("seen: %x; want %x", x.Seen, want)
		}
	})
}

// TestP12MixOfManySeen: the answer may have more than a call may be handed.
func TestP12MixOfManySeen(t *testing.T) {
	list := onionsOf(t, numbersUpTo(16)...)
	for _, count := range []int{0, 1, 48, 49, 63, 64} {
		if x := wantMix(t, "many seen", list, nil, oldTags(count), make([]int, 15)); len(x.Seen) != count+16 {
			t.Errorf("%d seen: %d then", count, len(x.Seen))
		}
	}
	for _, count := range []int{65, 66, 80, 256, impl.MaxList} {
		wantNoMix(t, secretOf(0), mixRound, itemsOf(list), nil, oldTags(count), make([]int, 15), impl.ErrRange)
		wantNoMix(t, secretOf(0), mixRound, nil, nil, make([]string, count), nil, impl.ErrRange)
	}
}

func TestP12MixOfWrongSecretsAndRounds(t *testing.T) {
	items := itemsOf(onionsOf(t, 1, 2))
	for _, secret := range wrongLengths() {
		for _, round := range append(wrongRounds(), 0, mixRound) {
			wantNoMix(t, secret, round, items, nil, nil, []int{1}, impl.ErrBad)
			wantNoMix(t, secret, round, nil, nil, nil, nil, impl.ErrBad)
			wantNoMix(t, secret, round, make([]string, 17), nil, oldTags(65), nil, impl.ErrBad)
		}
	}
	for _, round := range wrongRounds() {
		wantNoMix(t, secretOf(0), round, items, nil, nil, []int{1}, impl.ErrRange)
		wantNoMix(t, secretOf(0), round, items, nil, nil, nil, impl.ErrRange)
		wantNoMix(t, secretOf(0), round, nil, nil, nil, nil, impl.ErrRange)
	}
}

// TestP12MixOfManyItems: those and noise together are at most 16.
func TestP12MixOfManyItems(t *testing.T) {
	for items := range 65 {
		for _, noise := range []int{0, 1, 15 - items, 16 - items, 17 - items, 18 - items, 64 - items, 64} {
			if noise < 0 || items+noise == 0 {
				continue
			}
			if items+noise <= 16 {
				wantMix(t, "bad ones", notOpening(someItems(items, 5)...), someItems(noise, 5), nil, make([]int, 15))
				continue
			}
			wantNoMix(t, secretOf(0), mixRound, someItems(items, 5), someItems(noise, 5), nil, make([]int, 100), impl.ErrRange)
			wantNoMix(t, secretOf(0), mixRound, someItems(items, 5), someItems(noise, 5), nil, nil, impl.ErrRange)
		}
	}
}

// TestP12MixOfWrongItems: too many or too long for chapter 7, as items or as noise.
func TestP12MixOfWrongItems(t *testing.T) {
	for _, wrong := range wrongItems() {
		for _, round := range []int{-1, mixRound} {
			for _, right := range [][]string{nil, someItems(3, 5), someItems(64, 400)} {
				wantNoMix(t, secretOf(0), round, wrong, right, nil, nil, impl.ErrBad)
				wantNoMix(t, secretOf(0), round, right, wrong, oldTags(65), nil, impl.ErrBad)
			}
			wantNoMix(t, secretOf(0), round, wrong, wrong, nil, nil, impl.ErrBad)
		}
	}
}

func TestP12MixOfWrongWords(t *testing.T) {
	items := itemsOf(onionsOf(t, 1, 2))
	for _, words := range wrongWordLists() {
		wantNoMix(t, secretOf(0), mixRound, items, nil, nil, words, impl.ErrBad)
		wantNoMix(t, secretOf(0), -1, items, nil, oldTags(65), words, impl.ErrBad)
		wantNoMix(t, secretOf(0), mixRound, nil, nil, nil, words, impl.ErrBad)
		wantNoMix(t, secretOf(0), mixRound, make([]string, 17), nil, nil, words, impl.ErrBad)
	}
}
