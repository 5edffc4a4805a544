package tests

import (
	"fmt"
	"slices"
	"testing"

	"loop.example/g00254/impl"
)

// mixFrom is what a mix may have handed on, with a reply key for each place but that of noise.
func mixFrom(from ...int) impl.MixOut {
	x := impl.MixOut{From: from}
	for i, place := range from {
		reply := ""
		if place != -1 {
			reply = shareOf(i)
		}
		x.Replies = append(x.Replies, reply)
	}
	return x
}

func bodiesFor(count int) []string {
	var out []string
	for i := range count {
		out = append(out, fmt.Sprint("body of ", i))
	}
	return out
}

func TestP12BackWrittenOut(t *testing.T) {
	x := mixFrom(2, -1, 0)
	back, code := impl.RouteBack(x, 4, []string{"to two", "to noise", "to nought"})
	if code != impl.OK || len(back) != 4 || back[1] != "" || back[3] != "" {
		t.Fatalf("RouteBack: %q, code %d", back, code)
	}
	for place, want := range map[int]struct{ reply, body string }{0: {shareOf(2), "to nought"}, 2: {shareOf(0), "to two"}} {
		b, code := impl.OpenReply([]string{want.reply}, []byte(back[place]))
		wantText(t, fmt.Sprint("what went back to ", place), string(b), code, want.body)
		b, code = impl.WrapReply(want.reply, []byte(want.body))
		wantText(t, fmt.Sprint("what was put on for ", place), back[place], code, string(b))
	}
}

// TestP12BackInEachOrder: all orders in which up to five items, some of them noise, may have gone on.
func TestP12BackInEachOrder(t *testing.T) {
	for n := 1; n <= 5; n++ {
		eachChoices(n, func(choices []int) {
			from := otherPerm(choices)
			for noise := range n + 1 {
				with := slices.Clone(from)
				for i, place := range with {
					if place < noise {
						with[i] = -1
					}
				}
				wantBack(t, mixFrom(with...), n, bodiesFor(n))
				wantBack(t, mixFrom(with...), n+1, bodiesFor(n))
			}
		})
	}
}

// TestP12BackThroughAMix: of each kind of batch what went on gets its body back at its place, and nothing else does.
func TestP12BackThroughAMix(t *testing.T) {
	words := otherWords(someKey(), 100)
	for name, list := range mixKinds(t) {
		for noise := range 17 - len(list) {
			x, code := impl.MixItems(secretOf(0), mixRound, itemsOf(list), noiseItems(noise), nil, words)
			if code != impl.OK {
				t.Fatal("MixItems", code)
			}
			bodies := bodiesFor(len(x.Items))
			back := wantBack(t, x, len(list), bodies)
			for place, s := range list {
				at := slices.Index(x.From, place)
				if at < 0 {
					if back[place] != "" {
						t.Errorf("%s: %q went back to %d, from where nothing went on", name, back[place], place)
					}
					continue
				}
				b, code := impl.OpenReply([]string{s.p.Reply}, []byte(back[place]))
				wantText(t, name+": what its sender opens", string(b), code, bodies[at])
			}
		}
	}
}

// TestP12ThroughAllServersAndBack: onions of up to four layers go through their servers' mixes, and answers go the whole
// way back.
func TestP12ThroughAllServersAndBack(t *testing.T) {
	for layers := 1; layers <= 4; layers++ {
		secrets := secretsOf(layers)
		keys := keysFor(t, secrets)
		var items []string
		for sender := range 6 {
			items = append(items, otherOnion(t, shareOf(sender), mixRound, keys, payloadOf(sender)))
		}
		mixes, counts := []impl.MixOut{}, []int{}
		for server, secret := range secrets {
			var noise []string
			if server == layers-1 {
				noise = noiseItems(3)
			}
			x, code := impl.MixItems(secret, mixRound, items, noise, nil, otherWords(shareOf(server), 60))
			if code != impl.OK || x.Bad+x.Again != 0 {
				t.Fatalf("MixItems at %d: %s, code %d", server, mixTold(x), code)
			}
			mixes, counts, items = append(mixes, x), append(counts, len(items)), x.Items
		}
		if want := append(noiseItems(3), "payload of 0", "payload of 1", "payload of 2", "payload of 3", "payload of 4", "payload of 5"); !slices.Equal(slices.Sorted(slices.Values(items)), want) {
			t.Errorf("%d layers: %q goes on; want %q", layers, items, want)
		}
		bodies := make([]string, len(items))
		for i, item := range items {
			bodies[i] = "to " + item
		}
		for server := layers - 1; server >= 0; server-- {
			bodies = wantBack(t, mixes[server], counts[server], bodies)
		}
		for sender, body := range bodies {
			replies, _ := impl.ReplyKeys(shareOf(sender), mixRound, keys)
			b, code := impl.OpenReply(replies, []byte(body))
			wantText(t, fmt.Sprint("the answer to ", sender), string(b), code, "to "+payloadOf(sender))
		}
	}
}

func TestP12BackOfEachSize(t *testing.T) {
	for _, size := range []int{0, 1, 63, 64, 65, 128, 399, 400} {
		wantBack(t, mixFrom(1, -1, 0), 2, []string{someText(size), someText(size), noughts(size)})
	}
	for _, size := range []int{401, 402, 4096, impl.MaxText, impl.MaxText + 1} {
		for at := range 3 {
			bodies := bodiesFor(3)
			bodies[at] = noughts(size)
			wantNoBack(t, mixFrom(1, -1, 0), 2, bodies, impl.ErrBad)
		}
	}
}

// TestP12NoiseGoesNowhere: whatever its body is, and whatever stands as its reply key, for nothing is put on by it.
func TestP12NoiseGoesNowhere(t *testing.T) {
	for count := range 17 {
		for noise := range 17 {
			x := mixFrom(slices.Repeat([]int{-1}, noise)...)
			if back := wantBack(t, x, count, bodiesFor(noise)); slices.ContainsFunc(back, func(body string) bool { return body != "" }) {
				t.Errorf("noise came back: %q", back)
			}
		}
	}
	for _, reply := range []string{"", "x", someText(31), someKey(), someText(33), someText(impl.MaxText + 1)} {
		x := mixFrom(0, -1, 2)
		x.Replies[1] = reply
		wantBack(t, x, 3, bodiesFor(3))
	}
}

// TestP12BackOfItemsThatAreNotThere: what went on has no part in the way back, nor has what was seen or counted.
func TestP12BackOfItemsThatAreNotThere(t *testing.T) {
	want := wantBack(t, mixFrom(1, -1, 0), 2, bodiesFor(3))
	for _, items := range [][]string{nil, someItems(3, 5), someItems(70, 401), make([]string, impl.MaxList+1)} {
		x := mixFrom(1, -1, 0)
		x.Items, x.Seen, x.Bad, x.Again = items, items, -5, 1<<62
		if back := wantBack(t, x, 2, bodiesFor(3)); !slices.Equal(back, want) {
			t.Errorf("with %d items: %q; want %q", len(items), back, want)
		}
	}
}

func TestP12BackOfEachCount(t *testing.T) {
	for count := range 17 {
		from := turnedRound(numbersUpTo(count))
		wantBack(t, mixFrom(from...), count, bodiesFor(count))
		for more := count; more <= 16; more++ {
			wantBack(t, mixFrom(from...), more, bodiesFor(count))
		}
		for less := range count {
			wantNoBack(t, mixFrom(from...), less, bodiesFor(count), impl.ErrBad)
		}
	}
	for _, count := range append(farNumbers(), -16, -1, 17, 18, 64, impl.MaxList) {
		wantNoBack(t, mixFrom(), count, nil, impl.ErrRange)
		wantNoBack(t, mixFrom(0), count, bodiesFor(1), impl.ErrRange)
		wantNoBack(t, mixFrom(-5, 0, 0), count, make([]string, impl.MaxList), impl.ErrRange)
	}
}

// TestP12BackOfUnevenLists: From, Replies and bodies are as many, whichever of them is another.
func TestP12BackOfUnevenLists(t *testing.T) {
	for from := range 5 {
		for replies := range 5 {
			for bodies := range 5 {
				if from == replies && from == bodies {
					continue
				}
				x := mixFrom(numbersUpTo(from)...)
				x.Replies = sharesOf(replies)
				wantNoBack(t, x, 16, bodiesFor(bodies), impl.ErrBad)
				x.From = slices.Repeat([]int{-1}, from)
				wantNoBack(t, x, 16, bodiesFor(bodies), impl.ErrBad)
			}
		}
	}
}

// TestP12BackOfManyPlaces: From has at most 16, though all of them be noise's.
func TestP12BackOfManyPlaces(t *testing.T) {
	wantBack(t, mixFrom(append(numbersUpTo(15), -1)...), 16, bodiesFor(16))
	wantBack(t, mixFrom(slices.Repeat([]int{-1}, 16)...), 16, bodiesFor(16))
	for _, n := range []int{17, 18, 64, 65, 256, impl.MaxList} {
		wantNoBack(t, mixFrom(slices.Repeat([]int{-1}, n)...), 16, bodiesFor(n), impl.ErrBad)
		wantNoBack(t, mixFrom(append(numbersUpTo(16), slices.Repeat([]int{-1}, n-16)...)...), 16, bodiesFor(n), impl.ErrBad)
	}
	for _, n := range []int{impl.MaxList + 1, 2 * impl.MaxList} {
		wantNoBack(t, mixFrom(slices.Repeat([]int{-1}, n)...), 16, bodiesFor(3), impl.ErrBad)
		wantNoBack(t, mixFrom(0, 1, 2), 16, bodiesFor(n), impl.ErrLong)
		wantNoBack(t, mixFrom(-2), -1, make([]string, n), impl.ErrLong)
	}
}

func TestP12BackOfWrongPlaces(t *testing.T) {
	for count := 1; count <= 16; count++ {
		for at := range count {
			for _, wrong := range append(farNumbers(), -3, count, count+1, 16, 17, (at+1)%count) {
				x := mixFrom(numbersUpTo(count)...)
				x.From[at] = wrong
				if wrong != at {
					wantNoBack(t, x, count, bodiesFor(count), impl.ErrBad)
				}
			}
		}
	}
	wantNoBack(t, mixFrom(0), 0, bodiesFor(1), impl.ErrBad)
	wantBack(t, mixFrom(-1), 0, bodiesFor(1))
	wantBack(t, mixFrom(), 0, nil)
}

func TestP12BackOfWrongReplyKeys(t *testing.T) {
	for _, wrong := range append(wrongLengths(), longTexts()...) {
		for at := range 3 {
			x := mixFrom(1, 2, 0)
			x.Replies[at] = wrong
			wantNoBack(t, x, 3, bodiesFor(3), impl.ErrBad)
		}
	}
}

// TestP12BackOfAllPlacesFewEnough: all lists of up to three places, wrong ones among them, with a key that is wrong or none.
func TestP12BackOfAllPlacesFewEnough(t *testing.T) {
	for length := range 4 {
		eachNumbers(6, length, func(list []int) {
			for count := range 4 {
				for wrong := -1; wrong < length; wrong++ {
					x := impl.MixOut{Replies: sharesOf(length)}
					for _, number := range list {
						x.From = append(x.From, number-2)
					}
					if wrong >= 0 {
						x.Replies[wrong] = "short"
					}
					if rightWaysBack(x, count) {
						wantBack(t, x, count, bodiesFor(length))
					} else {
						wantNoBack(t, x, count, bodiesFor(length), impl.ErrBad)
					}
				}
			}
		})
	}
}
