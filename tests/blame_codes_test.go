package tests

import (
	"bytes"
	"fmt"
	"math"
	"slices"
	"testing"

	"loop.example/g00254/impl"
)

// blameArgs are what the functions of the chapter are handed, each of them some: items are a batch too, secrets are keys
// too, and the form's bytes are a payload.
type blameArgs struct {
	seed           string
	round          int
	secrets, items []string
	form           []byte
	forms          []string
	batches        [][]string
}

func (a blameArgs) String() string {
	return fmt.Sprintf("seed of %d bytes, round %d, %d secrets %s, %d items %s, form of %d bytes, %d forms %s, %d batches %s", len(a.seed), a.round,
		len(a.secrets), told(a.secrets), len(a.items), told(a.items), len(a.form), len(a.forms), told(a.forms), len(a.batches), told(a.batches))
}

func (a blameArgs) noRound() bool { return !within(a.round, 1000000) }

func (a blameArgs) wrongSecrets() bool {
	return slices.ContainsFunc(a.secrets, func(secret string) bool { return len(secret) != 32 })
}

// blameCall tells an answer as a text, the empty one of a zero answer; its faults stand as the chapter names them.
type blameCall struct {
	name   string
	call   func(a blameArgs) (string, int)
	faults func(a blameArgs) []fault
}

func onionFormsCall() blameCall {
	return blameCall{"OnionForms", func(a blameArgs) (string, int) {
		forms, code := impl.OnionForms(a.seed, a.round, a.secrets, a.form)
		return textsToldUnlessNone(forms), code
	}, func(a blameArgs) []fault {
		return []fault{
			{len(a.seed) > 65536 || len(a.secrets) > 4096 || len(a.form) > 65536, impl.ErrLong}, {len(a.seed) != 32, impl.ErrBad},
			{a.noRound() || len(a.secrets) > 4, impl.ErrRange}, {a.wrongSecrets(), impl.ErrBad}, {len(a.form)+48*len(a.secrets) > 400, impl.ErrRange},
		}
	}}
}

func findFormCall() blameCall {
	return blameCall{"FindForm", func(a blameArgs) (string, int) {
		at, code := impl.FindForm(a.items, string(a.form))
		return toldUnlessZero(at == 0, at), code
	}, func(a blameArgs) []fault {
		return []fault{
			{len(a.items) > 4096 || len(a.form) > 65536, impl.ErrLong}, {wrongForBoard(a.items), impl.ErrBad}, {len(a.form) > 400, impl.ErrRange},
			{!slices.Contains(a.items, string(a.form)), impl.ErrNone},
		}
	}}
}

func blameHopCall() blameCall {
	return blameCall{"BlameHop", func(a blameArgs) (string, int) {
		v, code := impl.BlameHop(a.forms, a.batches)
		return toldUnlessZero(v == impl.Verdict{}, v), code
	}, func(a blameArgs) []fault {
		wrong := wrongForBoard(a.forms) || slices.ContainsFunc(a.batches, wrongForBoard)
		return []fault{{max(len(a.forms), len(a.batches)) > 4096, impl.ErrLong}, {len(a.forms) != len(a.batches) || len(a.forms) > 5 || wrong, impl.ErrBad}}
	}}
}

func checkFormsCall() blameCall {
	return blameCall{"CheckForms", func(a blameArgs) (string, int) {
		n, code := impl.CheckForms(a.secrets, a.round, a.forms)
		return toldUnlessZero(n == 0, n), code
	}, func(a blameArgs) []fault {
		wrong := len(a.secrets) > 4 || len(a.forms)-len(a.secrets) != 1 || wrongForBoard(a.forms)
		return []fault{
			{max(len(a.secrets), len(a.forms)) > 4096, impl.ErrLong}, {wrong, impl.ErrBad}, {a.noRound(), impl.ErrRange}, {a.wrongSecrets(), impl.ErrBad},
		}
	}}
}

func honestBatchesCall() blameCall {
	return blameCall{"HonestBatches", func(a blameArgs) (string, int) {
		batches, code := impl.HonestBatches(a.secrets, a.round, a.items)
		return toldUnlessZero(len(batches) == 0, batches), code
	}, func(a blameArgs) []fault {
		wrong := len(a.secrets) > 4 || len(a.items) > 16 || wrongForBoard(a.items)
		return []fault{
			{max(len(a.secrets), len(a.items)) > 4096, impl.ErrLong}, {wrong, impl.ErrBad}, {a.noRound(), impl.ErrRange}, {a.wrongSecrets(), impl.ErrBad},
		}
	}}
}

func blameCalls() []blameCall {
	return []blameCall{onionFormsCall(), findFormCall(), blameHopCall(), checkFormsCall(), honestBatchesCall()}
}

func wantBlameCode(t *testing.T, f blameCall, a blameArgs) {
	t.Helper()
	want := firstFault(f.faults(a))
	got, code := f.call(a)
	if code != want || code != impl.OK && got != "" {
		t.Errorf("%s of %.600s: %.200q, code %d; want code %d", f.name, a, got, code, want)
	}
}

// blameLists are of items, of forms and of batches: they have all lengths at which a code changes.
func blameLists() [][]string {
	return [][]string{
		nil, {""}, {"a", "b"}, {"a", noughts(400), "c"}, {"a", "b", noughts(401)}, {someText(impl.MaxText + 1)}, someItems(4, 5), someItems(5, 5),
		{"a", "b", "c", "d", noughts(401)}, someItems(6, 5), someItems(16, 5), someItems(17, 5), someItems(64, 3), someItems(65, 3),
		make([]string, impl.MaxList), make([]string, impl.MaxList+1), append(make([]string, impl.MaxList), noughts(401)),
	}
}

func blameSecrets() [][]string {
	return [][]string{
		nil, secretsOf(1), secretsOf(2), {secretOf(0), someText(31)}, {someText(33), secretOf(0), secretOf(1)}, secretsOf(4), {"", "", "", ""},
		append(secretsOf(3), someText(impl.MaxText+1)), secretsOf(5), make([]string, 5), make([]string, impl.MaxList), make([]string, impl.MaxList+1),
	}
}

func blameRounds() []int { return []int{math.MinInt, -1, 0, 7, 1000000, 1000001, math.MaxInt} }

func blameBytes() [][]byte {
	var out [][]byte
	for _, size := range []int{0, 1, 3, 208, 209, 352, 400, 401, impl.MaxText, impl.MaxText + 1} {
		out = append(out, bytes.Repeat([]byte("a"), size))
	}
	return out
}

// blameBatches have a list of each kind in each place of up to MaxLayers + 2 batches, and are too many.
func blameBatches() [][][]string {
	out := [][][]string{nil, make([][]string, impl.MaxList), make([][]string, impl.MaxList+1)}
	for _, list := range blameLists() {
		for _, count := range []int{1, 2, 5, 6} {
			for _, at := range []int{0, count - 1} {
				batches := make([][]string, count)
				batches[at] = list
				out = append(out, batches)
			}
		}
	}
	return out
}

// TestP1BlameCodes holds each code against the first fault that the chapter names, over all that may be wrong together.
func TestP1BlameCodes(t *testing.T) {
	for _, forms := range blameLists() {
		for _, batches := range blameBatches() {
			wantBlameCode(t, blameHopCall(), blameArgs{forms: forms, batches: batches})
		}
		for _, form := range blameBytes() {
			wantBlameCode(t, findFormCall(), blameArgs{items: forms, form: form})
		}
	}
}

func TestP1FormCodes(t *testing.T) {
	lists, payloads := blameLists(), blameBytes()
	for _, secrets := range blameSecrets() {
		for _, round := range blameRounds() {
			for _, list := range lists {
				wantBlameCode(t, checkFormsCall(), blameArgs{secrets: secrets, round: round, forms: list})
				wantBlameCode(t, honestBatchesCall(), blameArgs{secrets: secrets, round: round, items: list})
			}
			for _, payload := range payloads {
				for _, seed := range codeTexts() {
					wantBlameCode(t, onionFormsCall(), blameArgs{seed: seed, round: round, secrets: secrets, form: payload})
				}
			}
		}
	}
}

// someBlameArgs are right for each call: an onion of two layers among others, of which the second hop loses one.
func someBlameArgs(t *testing.T) blameArgs {
	t.Helper()
	ways := waysOf(t, 3, 2)
	batches := otherHonest(ways, 2)
	batches[2] = withoutForm(batches[2], ways[1][2])
	items := append(wholeItems(ways), "bad", ways[0][0])
	return blameArgs{seed: someKey(), round: blameRound, secrets: secretsOf(2), items: items, form: []byte(items[2]), forms: ways[1], batches: batches}
}

// shortPayload leaves room for the layers, other than a whole onion.
func shortPayload(a blameArgs) blameArgs {
	a.form = []byte("payload")
	return a
}

func TestP1BlameAtBothEndsOfInt(t *testing.T) {
	ends := []int{math.MinInt, math.MinInt + 1, math.MinInt / 2, math.MaxInt / 2, math.MaxInt/2 + 1, math.MaxInt - 1, math.MaxInt}
	for _, a := range []blameArgs{someBlameArgs(t), shortPayload(someBlameArgs(t)), {}, {items: make([]string, 17)}, {secrets: []string{""}, forms: make([]string, 2)}} {
		for _, f := range blameCalls() {
			wantBlameCode(t, f, a)
			for _, end := range append(ends, farNumbers()...) {
				with := a
				with.round = end
				wantBlameCode(t, f, with)
			}
		}
	}
}

// manyBlameArgs are right and wrong ones.
func manyBlameArgs(t *testing.T) []blameArgs {
	some := someBlameArgs(t)
	short := shortPayload(some)
	out := []blameArgs{{}, some, short}
	for i, list := range blameLists() {
		with, of := some, some
		with.items, with.form = list, blameBytes()[i%10]
		of.forms, of.secrets = list, blameSecrets()[i%12]
		out = append(out, with, of)
	}
	for i, batches := range blameBatches() {
		if i%5 == 0 {
			with := some
			with.batches, with.forms = batches, someItems(len(batches), 3)
			out = append(out, with)
		}
	}
	for i, secrets := range blameSecrets() {
		with := short
		with.secrets, with.forms, with.seed = secrets, someItems(len(secrets)+1, 3), codeTexts()[2-i/7]
		out = append(out, with)
	}
	for _, round := range blameRounds() {
		with := short
		with.round = round
		out = append(out, with)
	}
	return out
}

// guardedBatches lie in the middle of others, and so does each of them by itself.
func guardedBatches(batches [][]string) (inside, whole, each [][]string) {
	whole = [][]string{{"ahead"}}
	for _, batch := range batches {
		within, around := guardedItems(batch)
		whole, each = append(whole, within), append(each, around)
	}
	whole = append(whole, slices.Repeat([][]string{{"behind"}}, 10)...)
	return whole[1 : 1+len(batches)], whole, each
}

// guardedBlame has the lists of arguments that lie in the middle of others whose other elements no call has to do with.
type guardedBlame struct {
	texts          [3][]string
	whole, batches [][]string
	form           []byte
}

func (a blameArgs) guardedIn() (inside blameArgs, w guardedBlame) {
	inside = a
	inside.secrets, w.texts[0] = guardedItems(a.secrets)
	inside.items, w.texts[1] = guardedItems(a.items)
	inside.forms, w.texts[2] = guardedItems(a.forms)
	inside.batches, w.whole, w.batches = guardedBatches(a.batches)
	inside.form, w.form = guarded(a.form)
	return inside, w
}

func (w guardedBlame) same(v guardedBlame) bool {
	return slices.EqualFunc(w.texts[:], v.texts[:], slices.Equal) && sameBatches(w.whole, v.whole) && sameBatches(w.batches, v.batches) && bytes.Equal(w.form, v.form)
}

// tight has lists without any room behind.
func (a blameArgs) tight() blameArgs {
	for _, list := range []*[]string{&a.secrets, &a.items, &a.forms} {
		*list = slices.Clip(slices.Clone(*list))
	}
	a.form = slices.Clip(slices.Clone(a.form))
	a.batches = slices.Clip(slices.Clone(a.batches))
	for i, batch := range a.batches {
		a.batches[i] = slices.Clip(slices.Clone(batch))
	}
	return a
}

func TestP1BlameIsNotWrittenIntoNorReadBehind(t *testing.T) {
	for _, a := range manyBlameArgs(t) {
		for _, f := range blameCalls() {
			inside, wholes := a.guardedIn()
			got, code := f.call(inside)
			if _, want := a.guardedIn(); !wholes.same(want) {
				t.Errorf("%s of %.300s wrote into its lists, or around them", f.name, a)
			}
			if want, wanted := f.call(a.tight()); got != want || code != wanted {
				t.Errorf("%s of %.300s has another answer with others behind", f.name, a)
			}
		}
	}
}

// spoil writes into all lists of arguments.
func (a blameArgs) spoil() {
	for _, list := range append([][]string{a.secrets, a.items, a.forms}, a.batches...) {
		spoilTexts(list)
	}
	clear(a.batches)
	overwrite(a.form)
}

// TestP1AnsweredFormsAreNewMemory spoils one answer and looks at the arguments and at another answer.
func TestP1AnsweredFormsAreNewMemory(t *testing.T) {
	for layers := range 3 {
		a := someBlameArgs(t)
		a.secrets, a.form = keysFor(t, secretsOf(layers)), []byte("payload")
		want := otherForms(a.round, otherHops(t, a.seed, a.round, a.secrets), "payload")
		inside, wholes := a.guardedIn()
		first, _ := impl.OnionForms(inside.seed, inside.round, inside.secrets, inside.form)
		second, code := impl.OnionForms(inside.seed, inside.round, inside.secrets, inside.form)
		spoilTexts(first)
		if _, untouched := a.guardedIn(); !wholes.same(untouched) {
			t.Error("OnionForms answers in the memory of an argument")
		}
		inside.spoil()
		if code != impl.OK || !slices.Equal(second, want) {
			t.Errorf("OnionForms of %d keys hangs on the memory of another answer or of an argument, code %d", layers, code)
		}
	}
}

// TestP1AnsweredBatchesAreNewMemory spoils the batches of an answer one by one and looks at all others, at the arguments
// and at another answer.
func TestP1AnsweredBatchesAreNewMemory(t *testing.T) {
	for layers := range 3 {
		for spoilt := range layers + 1 {
			a := someBlameArgs(t)
			ways := append(waysOf(t, 3, 2), way{"bad"})
			ways = append(ways, ways[0])
			want := otherHonest(ways, layers)
			inside, wholes := a.guardedIn()
			first, _ := impl.HonestBatches(inside.secrets[:layers], inside.round, inside.items)
			second, code := impl.HonestBatches(inside.secrets[:layers], inside.round, inside.items)
			spoilTexts(first[spoilt])
			first[spoilt] = want[spoilt]
			if !sameBatches(first, want) {
				t.Error("two batches of an answer share memory")
			}
			spoilBatches(first)
			if _, untouched := a.guardedIn(); !wholes.same(untouched) {
				t.Error("HonestBatches answers in the memory of an argument")
			}
			inside.spoil()
			if code != impl.OK || !sameBatches(second, want) {
				t.Errorf("HonestBatches of %d secrets hangs on the memory of another answer or of an argument, code %d", layers, code)
			}
		}
	}
}

func spoilBatches(batches [][]string) {
	for i := range batches[:cap(batches)] {
		batches[:cap(batches)][i] = []string{"spoilt"}
	}
}

// TestP1AnsweredTextsOfBlameAreNewMemory: forms and items are texts of their own, those that stand there twice too.
func TestP1AnsweredTextsOfBlameAreNewMemory(t *testing.T) {
	a := someBlameArgs(t)
	for layers := range 3 {
		forms, _ := impl.OnionForms(a.seed, a.round, a.secrets[:layers], []byte("payload"))
		batches, code := impl.HonestBatches(a.secrets[:layers], a.round, a.items)
		texts := append(forms, slices.Concat(batches...)...)
		if code != impl.OK || len(forms) != layers+1 || len(batches) != layers+1 {
			t.Fatal("OnionForms, HonestBatches", code)
		}
		for i, text := range texts {
			for _, other := range slices.Concat(a.items, a.secrets, []string{a.seed}, texts[:i]) {
				if text != "" && sharesText(text, other) {
					t.Errorf("%d layers: %.40q shares its memory", layers, text)
				}
			}
		}
	}
}

func TestP1BlameOfNilAndEmpty(t *testing.T) {
	for _, a := range manyBlameArgs(t) {
		for _, f := range blameCalls() {
			for list := range 6 {
				with := a
				with.batches = slices.Clone(a.batches)
				put := func(texts []string, batches [][]string, b []byte) {
					switch list {
					case 0:
						with.secrets = texts
					case 1:
						with.items = texts
					case 2:
						with.forms = texts
					case 3:
						with.batches, with.forms = batches, nil
					case 4:
						with.form = b
					case 5:
						for i := range with.batches {
							with.batches[i] = texts
						}
					}
				}
				put(nil, nil, nil)
				want, wanted := f.call(with)
				for _, room := range []int{0, 70} {
					put(make([]string, 0, room), make([][]string, 0, room), make([]byte, 0, room))
					if got, code := f.call(with); got != want || code != wanted {
						t.Errorf("%s of %.300s: nil and an empty list %d differ", f.name, a, list)
					}
				}
			}
		}
	}
	for _, room := range []int{0, 70} {
		wantBlame(t, "empty lists", make([]string, 0, room), make([][]string, 0, room), impl.Verdict{})
		wantNotFound(t, make([]string, 0, room), "", impl.ErrNone)
		wantNotChecked(t, make([]string, 0, room), 7, make([]string, 0, room), impl.ErrBad)
		wantForms(t, someKey(), 7, make([]string, 0, room), "")
	}
}

// blameAnswers tells what all functions of the chapter answer, in one order or the other; a call is known by the place of
// its arguments, for their texts would be long.
func blameAnswers(t *testing.T) func(backwards bool) map[string]string {
	args := manyBlameArgs(t)
	return func(backwards bool) map[string]string {
		out := map[string]string{}
		for i := range args {
			if backwards {
				i = len(args) - 1 - i
			}
			for _, f := range blameCalls() {
				out[fmt.Sprint(f.name, " of ", i)] = fmt.Sprintln(f.call(args[i]))
			}
		}
		return out
	}
}

func TestP1BlameAlikeArgumentsAlikeAnswers(t *testing.T) { wantAlike(t, blameAnswers(t)) }

func TestP1BlameCallsBesideEachOther(t *testing.T) { wantAlikeBeside(t, blameAnswers(t)) }
