package tests

import (
	"fmt"
	"slices"
	"testing"

	"loop.example/g00254/impl"
)

const blameRound = 11

// way is what an item is from batch to batch, as far as it opens.
type way []string

// wayOf is an onion's for the servers of these numbers, of a sender's seed of its own.
func wayOf(t *testing.T, sender int, servers ...int) way {
	t.Helper()
	var secrets []string
	for _, server := range servers {
		secrets = append(secrets, secretOf(server))
	}
	return otherForms(blameRound, otherHops(t, shareOf(sender), blameRound, keysFor(t, secrets)), payloadOf(sender))
}

// waysOf are of as many senders, each with an onion for the first servers.
func waysOf(t *testing.T, senders, layers int) []way {
	t.Helper()
	var out []way
	for sender := range senders {
		out = append(out, wayOf(t, sender, numbersUpTo(layers)...))
	}
	return out
}

func wholeItems(ways []way) []string {
	var out []string
	for _, w := range ways {
		out = append(out, w[0])
	}
	return out
}

// otherHonest has in each batch those items that have opened up to it.
func otherHonest(ways []way, layers int) [][]string {
	out := make([][]string, layers+1)
	for hop := range out {
		for _, w := range ways {
			if len(w) > hop {
				out[hop] = append(out[hop], w[hop])
			}
		}
	}
	return out
}

func sameBatches(a, b [][]string) bool { return slices.EqualFunc(a, b, slices.Equal) }

func batchesTold(batches [][]string) string {
	sizes := []int{}
	for _, batch := range batches {
		sizes = append(sizes, len(batch))
	}
	return fmt.Sprintf("batches of %s items %s", told(sizes), told(batches))
}

func wantHonest(t *testing.T, call string, layers int, ways []way) [][]string {
	t.Helper()
	batches, code := impl.HonestBatches(secretsOf(layers), blameRound, wholeItems(ways))
	if want := otherHonest(ways, layers); code != impl.OK || !sameBatches(batches, want) {
		t.Errorf("HonestBatches, %s, %d secrets, %d items: %.500s, code %d; want %.500s", call, layers, len(ways), batchesTold(batches), code, batchesTold(want))
	}
	return batches
}

func wantNotHonest(t *testing.T, secrets []string, round int, items []string, want int) {
	t.Helper()
	if batches, code := impl.HonestBatches(secrets, round, items); code != want || len(batches) != 0 {
		t.Errorf("HonestBatches of %d secrets %.100s, round %d, %d items %.100s: %.300s, code %d; want nothing, code %d",
			len(secrets), told(secrets), round, len(items), told(items), batchesTold(batches), code, want)
	}
}

func TestP14HonestBatches(t *testing.T) {
	for _, layers := range layerCounts() {
		for _, senders := range []int{0, 1, 2, 3, 4, 5, 8, 9, 15, 16} {
			wantHonest(t, "all open", layers, waysOf(t, senders, layers))
		}
	}
}

// TestP14HonestBatchesInOrder: the order is that in which items came, whatever it was.
func TestP14HonestBatchesInOrder(t *testing.T) {
	ways := waysOf(t, 7, 3)
	for turn := range ways {
		turned := append(slices.Clone(ways[turn:]), ways[:turn]...)
		wantHonest(t, fmt.Sprint("turned by ", turn), 3, turned)
		slices.Reverse(turned)
		wantHonest(t, fmt.Sprint("turned by ", turn, ", backwards"), 3, turned)
	}
}

// TestP14HonestBatchesLeaveOut: what does not open is left out where it does not open, and nothing else is.
func TestP14HonestBatchesLeaveOut(t *testing.T) {
	onion := wayOf(t, 1, 0, 1, 2, 3)
	kinds := []way{
		onion, wayOf(t, 2, 0, 1, 2), wayOf(t, 3, 0, 1), wayOf(t, 4, 0), {"bad"}, {""}, {someText(48)}, {someText(400)}, {flipped(onion[0], 900)},
		wayOf(t, 5, 0, 0, 0)[:2], wayOf(t, 6, 1, 0)[:1], wayOf(t, 7, 0, 1, 3, 2)[:3], {onion[1]}, {onion[0][:len(onion[0])-1]},
	}
	for layers := range 5 {
		wantHonest(t, "of all kinds", layers, kinds)
		for i, kind := range kinds {
			wantHonest(t, fmt.Sprint("kind ", i), layers, []way{kind})
			for k, other := range kinds {
				wantHonest(t, fmt.Sprint("kinds ", i, " and ", k), layers, []way{other, kind, other})
			}
		}
	}
}

// TestP14HonestBatchesOfOneItemTwice: it goes on twice, for nobody has seen a tag.
func TestP14HonestBatchesOfOneItemTwice(t *testing.T) {
	first, second := wayOf(t, 1, 0, 1, 2), wayOf(t, 2, 0, 1, 2)
	for _, ways := range [][]way{{first, first}, {first, second, first}, {first, first, first, second, second}, slices.Repeat([]way{first}, 16), {{"bad"}, {"bad"}}, {{""}, {""}}} {
		for layers := range 4 {
			wantHonest(t, "twice", layers, ways)
		}
	}
}

func TestP14HonestBatchesOfNothing(t *testing.T) {
	for layers := range 5 {
		batches := wantHonest(t, "no items", layers, nil)
		if len(batches) != layers+1 {
			t.Errorf("%d secrets, no items: %d batches", layers, len(batches))
		}
	}
	for _, items := range [][]string{{"a"}, {"", ""}, {"a", "b", "a"}, someItems(16, 400)} {
		if batches, code := impl.HonestBatches(nil, 0, items); code != impl.OK || !sameBatches(batches, [][]string{items}) {
			t.Errorf("HonestBatches without secrets: %s, code %d", batchesTold(batches), code)
		}
	}
}

// TestP14HonestBatchesOfMostBytes: an item of MaxItem bytes is peeled, of one more it is wrong.
func TestP14HonestBatchesOfMostBytes(t *testing.T) {
	for layers := 1; layers <= 4; layers++ {
		secrets := secretsOf(layers)
		for _, size := range payloadSizes(layers) {
			forms := otherForms(blameRound, otherHops(t, someKey(), blameRound, keysFor(t, secrets)), someText(size))
			wantHonest(t, fmt.Sprint("around ", size, " bytes"), layers, []way{forms, forms})
		}
	}
}

func TestP14HonestBatchesInEachRound(t *testing.T) {
	secrets := secretsOf(2)
	for _, round := range pairRounds() {
		forms := otherForms(round, otherHops(t, someKey(), round, keysFor(t, secrets)), "payload")
		for _, other := range pairRounds() {
			want := [][]string{{forms[0]}, nil, nil}
			if other == round {
				want = [][]string{{forms[0]}, {forms[1]}, {forms[2]}}
			}
			if batches, code := impl.HonestBatches(secrets, other, forms[:1]); code != impl.OK || !sameBatches(batches, want) {
				t.Errorf("HonestBatches of round %d in %d: %s, code %d", round, other, batchesTold(batches), code)
			}
		}
	}
}

// TestP14HonestBatchesAsMixesLeaveThem: what a mix without noise lets go on is the next batch, in some order.
func TestP14HonestBatchesAsMixesLeaveThem(t *testing.T) {
	ways := waysOf(t, 9, 3)
	batches := wantHonest(t, "as mixes", 3, ways)
	items, words := wholeItems(ways), otherWords(someKey(), 200)
	for hop, secret := range secretsOf(3) {
		x, code := impl.MixItems(secret, blameRound, items, nil, nil, words)
		if code != impl.OK || !slices.Equal(slices.Sorted(slices.Values(x.Items)), slices.Sorted(slices.Values(batches[hop+1]))) {
			t.Errorf("hop %d: what a mix leaves is no honest batch, code %d", hop, code)
		}
		items = x.Items
	}
}

func TestP14HonestBatchesOfTooMany(t *testing.T) {
	for layers := range 5 {
		wantHonest(t, "most items", layers, slices.Repeat([]way{{"short"}}, 16))
		for _, count := range []int{17, 18, 63, 64, 65, impl.MaxList} {
			for _, round := range append(wrongRounds(), blameRound) {
				wantNotHonest(t, secretsOf(layers), round, someItems(count, 3), impl.ErrBad)
			}
		}
		wantNotHonest(t, secretsOf(layers), blameRound, make([]string, impl.MaxList+1), impl.ErrLong)
	}
	for _, count := range []int{5, 6, 64, 65, impl.MaxList} {
		for _, round := range append(wrongRounds(), blameRound) {
			wantNotHonest(t, sharesOf(count), round, []string{"a"}, impl.ErrBad)
			wantNotHonest(t, make([]string, count), round, nil, impl.ErrBad)
		}
	}
	wantNotHonest(t, make([]string, impl.MaxList+1), -1, make([]string, 17), impl.ErrLong)
	wantNotHonest(t, sharesOf(impl.MaxList+1), blameRound, []string{"a"}, impl.ErrLong)
}

func TestP14HonestBatchesOfLongItems(t *testing.T) {
	for layers := range 5 {
		for _, count := range []int{1, 2, 16} {
			for _, at := range []int{0, count - 1} {
				items := someItems(count, 3)
				for _, size := range []int{401, 402, impl.MaxText, impl.MaxText + 1} {
					items[at] = noughts(size)
					for _, round := range append(wrongRounds(), blameRound) {
						wantNotHonest(t, secretsOf(layers), round, items, impl.ErrBad)
					}
				}
			}
		}
	}
}

// TestP14HonestBatchesInTheOrderOfCodes: as at CheckForms.
func TestP14HonestBatchesInTheOrderOfCodes(t *testing.T) {
	for layers := 1; layers <= 4; layers++ {
		for _, round := range wrongRounds() {
			wantNotHonest(t, secretsOf(layers), round, []string{"a"}, impl.ErrRange)
			wantNotHonest(t, make([]string, layers), round, []string{"a"}, impl.ErrRange)
			wantNotHonest(t, nil, round, nil, impl.ErrRange)
		}
		for _, wrong := range append(wrongLengths(), longTexts()...) {
			for at := range layers {
				secrets := secretsOf(layers)
				secrets[at] = wrong
				wantNotHonest(t, secrets, blameRound, []string{"a"}, impl.ErrBad)
				wantNotHonest(t, secrets, blameRound, nil, impl.ErrBad)
				wantNotHonest(t, secrets, 1000001, []string{"a"}, impl.ErrRange)
				wantNotHonest(t, secrets, -1, make([]string, 17), impl.ErrBad)
			}
		}
	}
}
