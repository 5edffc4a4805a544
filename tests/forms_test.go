package tests

import (
	"fmt"
	"slices"
	"testing"

	"loop.example/g00254/impl"
)

func formsTold(forms []string) string { return fmt.Sprintf("%d forms %.300s", len(forms), told(forms)) }

func wantForms(t *testing.T, seed string, round int, keys []string, payload string) []string {
	t.Helper()
	forms, code := impl.OnionForms(seed, round, keys, []byte(payload))
	if want := otherForms(round, otherHops(t, seed, round, keys), payload); code != impl.OK || !slices.Equal(forms, want) {
		t.Errorf("OnionForms of %d keys, round %d, %d bytes: %s, code %d; want %s", len(keys), round, len(payload), formsTold(forms), code, formsTold(want))
	}
	return forms
}

func wantNoForms(t *testing.T, seed string, round int, keys []string, payload string, want int) {
	t.Helper()
	if forms, code := impl.OnionForms(seed, round, keys, []byte(payload)); code != want || len(forms) != 0 {
		t.Errorf("OnionForms by %d bytes, round %d, %d keys, %d bytes: %s, code %d; want nothing, code %d",
			len(seed), round, len(keys), len(payload), formsTold(forms), code, want)
	}
}

func TestP14Forms(t *testing.T) {
	keys := keysFor(t, secretsOf(4))
	for _, layers := range layerCounts() {
		for _, size := range payloadSizes(layers) {
			wantForms(t, someKey(), 7, keys[:layers], someText(size))
		}
		for _, seed := range someSeeds() {
			wantForms(t, seed, 0x0a0b0c, keys[4-layers:], someText(10))
		}
		for _, round := range pairRounds() {
			wantForms(t, someKey(), round, keys[:layers], someText(100))
		}
	}
}

// TestP14FormsFromTheOnionToThePayload: the whole one first, as WrapOnion answers, each shorter by a layer, the payload
// last; one form more than there are keys.
func TestP14FormsFromTheOnionToThePayload(t *testing.T) {
	keys := keysFor(t, secretsOf(4))
	for _, layers := range layerCounts() {
		for _, size := range payloadSizes(layers) {
			onion, _ := impl.WrapOnion(someKey(), 7, keys[:layers], someBytes(size))
			forms := wantForms(t, someKey(), 7, keys[:layers], someText(size))
			if len(forms) != layers+1 || forms[0] != string(onion) || forms[layers] != someText(size) {
				t.Errorf("%d layers around %d bytes: %s", layers, size, formsTold(forms))
			}
			for hop, form := range forms {
				wantSize(t, layers-hop, size, len(form), impl.OK)
			}
		}
	}
}

func TestP14FormsWithoutKeys(t *testing.T) {
	for _, size := range []int{0, 1, 47, 48, 399, 400} {
		if forms := wantForms(t, someKey(), 7, nil, someText(size)); !slices.Equal(forms, []string{someText(size)}) {
			t.Errorf("OnionForms without keys, %d bytes: %s", size, formsTold(forms))
		}
	}
	wantNoForms(t, someKey(), 7, nil, someText(401), impl.ErrRange)
}

// TestP14EachFormIsWhatTheHopMakes: what the hop's server peels of a form is the next one.
func TestP14EachFormIsWhatTheHopMakes(t *testing.T) {
	for _, layers := range layerCounts() {
		secrets := secretsOf(layers)
		for _, round := range []int{0, 7, 1000000} {
			for _, size := range payloadSizes(layers) {
				forms, code := impl.OnionForms(shareOf(size), round, keysFor(t, secrets), someBytes(size))
				for hop, secret := range secrets {
					p, peelCode := impl.PeelOnion(secret, round, []byte(forms[hop]))
					if peelCode != impl.OK || p.Inner != forms[hop+1] {
						t.Errorf("hop %d of %d, round %d, %d bytes: code %d", hop, layers, round, size, peelCode)
					}
					left, n, peelCode := impl.PeelAll(secrets[:hop], round, []byte(forms[0]))
					if peelCode != impl.OK || n != hop || left != forms[hop] {
						t.Errorf("ahead of hop %d of %d, round %d, %d bytes: code %d", hop, layers, round, size, peelCode)
					}
				}
				if code != impl.OK {
					t.Error("OnionForms", code)
				}
			}
		}
	}
}

// TestP14FormsOfOddKeys: a key twice, keys that share nought, keys that are no numbers of the field.
func TestP14FormsOfOddKeys(t *testing.T) {
	key := libraryPublic(t, secretOf(0))
	for _, layers := range layerCounts() {
		wantForms(t, someKey(), 3, slices.Repeat([]string{key}, layers), "again")
	}
	for _, u := range smallPoints() {
		wantForms(t, someKey(), 3, []string{key, text32(u), key}, "payload")
	}
	for _, wrong := range wrongNumbers() {
		wantForms(t, someKey(), 3, []string{key, wrong}, "payload")
	}
}

// TestP14FormsHaveTheCodesOfWrapOnion asks for all that may be wrong together.
func TestP14FormsHaveTheCodesOfWrapOnion(t *testing.T) {
	wrap := senderCalls()[2]
	eachOnionArgs(func(x onionArgs) {
		want := firstFault(wrap.faults(x))
		_, wrapCode := impl.WrapOnion(x.text, x.n, x.list, x.b)
		forms, code := impl.OnionForms(x.text, x.n, x.list, x.b)
		if code != want || code != wrapCode || code == impl.OK && len(forms) != len(x.list)+1 || code != impl.OK && len(forms) != 0 {
			t.Errorf("OnionForms of %s: %s, code %d; want code %d", x, formsTold(forms), code, want)
		}
	})
	if wrap.name != "WrapOnion" {
		t.Error("held against", wrap.name)
	}
}

func TestP14FormsOfWrongArguments(t *testing.T) {
	keys := keysFor(t, secretsOf(4))
	for _, seed := range wrongLengths() {
		wantNoForms(t, seed, 7, keys, "payload", impl.ErrBad)
	}
	for _, round := range wrongRounds() {
		wantNoForms(t, someKey(), round, keys, "payload", impl.ErrRange)
	}
	for _, list := range wrongKeyLists(keys[0]) {
		wantNoForms(t, someKey(), 7, list, "payload", impl.ErrBad)
	}
	for _, list := range manyLists(keys[0]) {
		wantNoForms(t, someKey(), 7, list, "payload", impl.ErrRange)
	}
	for _, layers := range layerCounts() {
		for _, beyond := range []int{1, 48, 4096} {
			wantNoForms(t, someKey(), 7, keys[:layers], someText(400-48*layers+beyond), impl.ErrRange)
		}
	}
}

func wantFound(t *testing.T, batch []string, form string, want int) {
	t.Helper()
	if at, code := impl.FindForm(batch, form); code != impl.OK || at != want {
		t.Errorf("FindForm of %d bytes %.40q in %d items %.300s: %d, code %d; want %d", len(form), form, len(batch), told(batch), at, code, want)
	}
}

func wantNotFound(t *testing.T, batch []string, form string, want int) {
	t.Helper()
	if at, code := impl.FindForm(batch, form); code != want || at != 0 {
		t.Errorf("FindForm of %d bytes %.40q in %d items %.300s: %d, code %d; want nothing, code %d", len(form), form, len(batch), told(batch), at, code, want)
	}
}

func TestP14FindTheFirstPlace(t *testing.T) {
	wantFound(t, []string{"a"}, "a", 0)
	wantFound(t, []string{"b", "a"}, "a", 1)
	wantFound(t, []string{"a", "a"}, "a", 0)
	wantFound(t, []string{"b", "a", "c", "a", "a"}, "a", 1)
	wantNotFound(t, nil, "a", impl.ErrNone)
	wantNotFound(t, []string{"b"}, "a", impl.ErrNone)
	wantNotFound(t, []string{"aa", "A", "", " a", "a ", "a\x00", "\x00a"}, "a", impl.ErrNone)
	for length := range 6 {
		eachNumbers(3, length, func(numbers []int) {
			var batch []string
			for _, k := range numbers {
				batch = append(batch, fmt.Sprint("form ", k))
			}
			for k := range 3 {
				if at := slices.Index(numbers, k); at >= 0 {
					wantFound(t, batch, fmt.Sprint("form ", k), at)
				} else {
					wantNotFound(t, batch, fmt.Sprint("form ", k), impl.ErrNone)
				}
			}
		})
	}
}

func TestP14FindInEachPlace(t *testing.T) {
	for count := range 65 {
		items := someItems(count, 5)
		wantNotFound(t, items, "not there", impl.ErrNone)
		for at := range items {
			batch := slices.Clone(items)
			batch[at] = "form"
			wantFound(t, batch, "form", at)
		}
	}
}

// TestP14FindTheEmptyForm: it is a form like others, and no beginning of another one.
func TestP14FindTheEmptyForm(t *testing.T) {
	wantFound(t, []string{""}, "", 0)
	wantFound(t, []string{"a", "", ""}, "", 1)
	wantFound(t, make([]string, 64), "", 0)
	wantNotFound(t, nil, "", impl.ErrNone)
	wantNotFound(t, []string{"a"}, "", impl.ErrNone)
	wantNotFound(t, []string{"\x00"}, "", impl.ErrNone)
}

func TestP14FindAlmostTheForm(t *testing.T) {
	form := someText(400)
	var batch []string
	for bit := 0; bit < 3200; bit += 53 {
		batch = append(batch, flipped(form, bit))
	}
	wantNotFound(t, batch, form, impl.ErrNone)
	wantFound(t, append(batch, form[:399], form), form, len(batch)+1)
	wantFound(t, append(batch, form, form[:399]), form[:399], len(batch)+1)
}

// TestP14FindLongForms: of MaxItem bytes a form may be there, of one more it is ErrRange, behind a wrong batch.
func TestP14FindLongForms(t *testing.T) {
	wantFound(t, []string{"a", noughts(400)}, noughts(400), 1)
	wantNotFound(t, []string{"a"}, noughts(400), impl.ErrNone)
	for _, size := range []int{401, 402, 4096, impl.MaxText} {
		for _, batch := range [][]string{nil, {"a"}, {noughts(400)}, someItems(64, 400)} {
			wantNotFound(t, batch, noughts(size), impl.ErrRange)
		}
		for _, batch := range wrongItems() {
			wantNotFound(t, batch, noughts(size), impl.ErrBad)
		}
	}
	for _, form := range longTexts() {
		for _, batch := range append(wrongItems(), nil, []string{"a"}) {
			wantNotFound(t, batch, form, impl.ErrLong)
		}
	}
}

func TestP14FindInWrongBatches(t *testing.T) {
	for _, batch := range rightItems() {
		wantNotFound(t, batch, "a form that is not there", impl.ErrNone)
		if len(batch) > 0 {
			last := batch[len(batch)-1]
			wantFound(t, batch, last, slices.Index(batch, last))
		}
	}
	for _, batch := range wrongItems() {
		for _, form := range []string{"", batch[0], "a"} {
			if len(form) <= 400 {
				wantNotFound(t, batch, form, impl.ErrBad)
			}
		}
	}
	for _, count := range []int{impl.MaxList + 1, 2 * impl.MaxList} {
		for _, form := range []string{"", noughts(400), noughts(401)} {
			wantNotFound(t, make([]string, count), form, impl.ErrLong)
		}
	}
}
