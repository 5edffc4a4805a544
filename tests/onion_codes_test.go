package tests

import (
	"bytes"
	"fmt"
	"slices"
	"strings"
	"testing"

	"loop.example/g00254/impl"
)

// onionArgs are what the functions of the chapter are handed, each of them some: a seed, a secret, a key or what is
// shared; a round or a hop; keys or secrets; bytes.
type onionArgs struct {
	text string
	n    int
	list []string
	b    []byte
}

func (x onionArgs) String() string {
	return fmt.Sprint(len(x.text), " bytes, ", x.n, ", ", len(x.list), " in the list, ", len(x.b), " bytes")
}

func (x onionArgs) noRound() bool { return !within(x.n, 1000000) }

func (x onionArgs) wrongText() bool { return len(x.text) != 32 }

func (x onionArgs) wrongInList() bool {
	return slices.ContainsFunc(x.list, func(text string) bool { return len(text) != 32 })
}

func (x onionArgs) longText() bool { return len(x.text) > 65536 }

func (x onionArgs) longList() bool { return len(x.list) > 4096 }

func (x onionArgs) longBytes() bool { return len(x.b) > 65536 }

// onionCall tells an answer as a text, the empty one of a zero answer; its faults stand as the chapter names them.
type onionCall struct {
	name   string
	call   func(x onionArgs) (string, int)
	faults func(x onionArgs) []fault
}

func senderCalls() []onionCall {
	return []onionCall{
		{"HopSecret", func(x onionArgs) (string, int) { return impl.HopSecret(x.text, x.n) }, func(x onionArgs) []fault {
			return []fault{{x.longText(), impl.ErrLong}, {x.wrongText(), impl.ErrBad}, {!within(x.n, 3), impl.ErrRange}}
		}},
		{"LayerKeys", func(x onionArgs) (string, int) {
			key, tag, reply, code := impl.LayerKeys(x.text, x.n)
			return key + tag + reply, code
		}, func(x onionArgs) []fault {
			return []fault{{x.longText(), impl.ErrLong}, {x.wrongText(), impl.ErrBad}, {x.noRound(), impl.ErrRange}}
		}},
		{"WrapOnion", func(x onionArgs) (string, int) {
			onion, code := impl.WrapOnion(x.text, x.n, x.list, x.b)
			return string(onion), code
		}, func(x onionArgs) []fault {
			return []fault{
				{x.longText() || x.longList() || x.longBytes(), impl.ErrLong}, {x.wrongText(), impl.ErrBad},
				{x.noRound() || len(x.list) > 4, impl.ErrRange}, {x.wrongInList(), impl.ErrBad},
				{len(x.b)+48*len(x.list) > 400, impl.ErrRange},
			}
		}},
		{"ReplyKeys", func(x onionArgs) (string, int) {
			keys, code := impl.ReplyKeys(x.text, x.n, x.list)
			return toldUnlessZero(len(keys) == 0, keys), code
		}, func(x onionArgs) []fault {
			return []fault{
				{x.longText() || x.longList(), impl.ErrLong}, {x.wrongText(), impl.ErrBad},
				{x.noRound() || len(x.list) > 4, impl.ErrRange}, {x.wrongInList(), impl.ErrBad},
			}
		}},
		{"OpenReply", func(x onionArgs) (string, int) {
			b, code := impl.OpenReply(x.list, x.b)
			return string(b), code
		}, func(x onionArgs) []fault {
			return []fault{{x.longList() || x.longBytes(), impl.ErrLong}, {len(x.list) > 4, impl.ErrRange}, {x.wrongInList(), impl.ErrBad}}
		}},
	}
}

// serverCalls have the faults of bytes that are no onion.
func serverCalls() []onionCall {
	return []onionCall{
		{"PeelOnion", func(x onionArgs) (string, int) {
			p, code := impl.PeelOnion(x.text, x.n, x.b)
			return toldUnlessZero(p == impl.Peeled{}, p), code
		}, func(x onionArgs) []fault {
			return []fault{
				{x.longText() || x.longBytes(), impl.ErrLong}, {x.wrongText(), impl.ErrBad},
				{x.noRound() || len(x.b) > 400, impl.ErrRange}, {len(x.b) < 48, impl.ErrForm}, {true, impl.ErrSealed},
			}
		}},
		{"PeelAll", func(x onionArgs) (string, int) {
			left, n, code := impl.PeelAll(x.list, x.n, x.b)
			return toldUnlessZero(left == "" && n == 0, fmt.Sprint(left, n)), code
		}, func(x onionArgs) []fault {
			return []fault{
				{x.longList() || x.longBytes(), impl.ErrLong}, {x.wrongInList(), impl.ErrBad},
				{x.noRound() || len(x.list) > 4 || len(x.b) > 400, impl.ErrRange}, {len(x.list) > 0, impl.ErrSealed},
			}
		}},
		{"WrapReply", func(x onionArgs) (string, int) {
			b, code := impl.WrapReply(x.text, x.b)
			return string(b), code
		}, func(x onionArgs) []fault {
			return []fault{{x.longText() || x.longBytes(), impl.ErrLong}, {x.wrongText(), impl.ErrBad}}
		}},
	}
}

func onionCalls() []onionCall { return append(senderCalls(), serverCalls()...) }

func onionTexts() []string {
	return []string{"", someText(31), someKey(), someText(33), someText(impl.MaxText), someText(impl.MaxText + 1)}
}

func onionNumbers() []int { return []int{-1, 0, 3, 4, 1000000, 1000001} }

func onionLists() [][]string {
	key := someKey()
	return [][]string{
		nil, {key}, slices.Repeat([]string{key}, 4), slices.Repeat([]string{key}, 5),
		{key[:31]}, {key, key + "x"}, {key, key, key, ""}, {key, someText(impl.MaxText + 1)}, {key, key, "", key, key},
		slices.Repeat([]string{key}, impl.MaxList), slices.Repeat([]string{""}, impl.MaxList),
		slices.Repeat([]string{key}, impl.MaxList+1), slices.Repeat([]string{""}, impl.MaxList+1),
	}
}

func onionBytes() [][]byte {
	var out [][]byte
	for _, size := range []int{0, 1, 47, 48, 208, 209, 352, 353, 400, 401, impl.MaxText, impl.MaxText + 1} {
		out = append(out, someBytes(size))
	}
	return out
}

func eachOnionArgs(do func(x onionArgs)) {
	lists, sizes := onionLists(), onionBytes()
	for _, text := range onionTexts() {
		for _, n := range onionNumbers() {
			for _, list := range lists {
				for _, b := range sizes {
					do(onionArgs{text, n, list, b})
				}
			}
		}
	}
}

// TestP1OnionCodes holds each code against the first fault that the chapter names, over all that may be wrong together.
func TestP1OnionCodes(t *testing.T) {
	for _, f := range onionCalls() {
		eachOnionArgs(func(x onionArgs) {
			want := firstFault(f.faults(x))
			got, code := f.call(x)
			if code != want || code != impl.OK && got != "" {
				t.Errorf("%s of %s: %.100q, code %d; want code %d", f.name, x, got, code, want)
			}
		})
	}
}

// rightOnionArgs are right for all calls: the list is of secrets and its bytes are an onion for their keys, or it is of
// keys.
func rightOnionArgs(t *testing.T) []onionArgs {
	t.Helper()
	var out []onionArgs
	for _, layers := range layerCounts() {
		secrets := secretsOf(layers)
		keys := keysFor(t, secrets)
		for _, size := range []int{0, 1, 64, 150} {
			onion := otherOnion(t, someKey(), 3, keys, someText(size))
			out = append(out, onionArgs{secretOf(0), 3, secrets, []byte(onion)}, onionArgs{someKey(), 3, keys, someBytes(size)})
		}
	}
	return out
}

// wrongOnionArgs have one fault each, for some call at least.
func wrongOnionArgs() []onionArgs {
	right := onionArgs{someKey(), 3, []string{someKey(), shareOf(0)}, someBytes(60)}
	var out []onionArgs
	for _, text := range onionTexts() {
		out = append(out, onionArgs{text, right.n, right.list, right.b})
	}
	for _, n := range onionNumbers() {
		out = append(out, onionArgs{right.text, n, right.list, right.b})
	}
	for _, list := range onionLists() {
		out = append(out, onionArgs{right.text, right.n, list, right.b})
	}
	for _, b := range onionBytes() {
		out = append(out, onionArgs{right.text, right.n, right.list, b})
	}
	return out
}

func someOnionArgs(t *testing.T) []onionArgs {
	t.Helper()
	return append(rightOnionArgs(t), wrongOnionArgs()...)
}

// TestP1OnionWritesIntoNoArgument also looks at what lies around it, and that this has no part in an answer.
func TestP1OnionWritesIntoNoArgument(t *testing.T) {
	for _, x := range someOnionArgs(t) {
		for _, f := range onionCalls() {
			list, wholeList := guardedItems(x.list)
			b, wholeBytes := guarded(x.b)
			got, code := f.call(onionArgs{x.text, x.n, list, b})
			if _, want := guardedItems(x.list); !slices.Equal(wholeList, want) {
				t.Errorf("%s of %s wrote into a list, or around it", f.name, x)
			}
			if _, want := guarded(x.b); !bytes.Equal(wholeBytes, want) {
				t.Errorf("%s of %s wrote into bytes, or around them", f.name, x)
			}
			want, wantedCode := f.call(onionArgs{x.text, x.n, slices.Clip(slices.Clone(x.list)), slices.Clip(slices.Clone(x.b))})
			if got != want || code != wantedCode {
				t.Errorf("%s of %s has another answer with others behind", f.name, x)
			}
		}
	}
}

func TestP1OnionTextsStay(t *testing.T) {
	for _, x := range someOnionArgs(t) {
		text, list := strings.Clone(x.text), make([]string, len(x.list))
		for i := range list {
			list[i] = strings.Clone(x.list[i])
		}
		for _, f := range onionCalls() {
			f.call(x)
			if x.text != text || !slices.Equal(x.list, list) {
				t.Errorf("%s of %s changed a text", f.name, x)
			}
		}
	}
}

// TestP1OnionBytesAreNewMemory writes into an answer and looks at the arguments, then the other way round.
func TestP1OnionBytesAreNewMemory(t *testing.T) {
	for _, f := range []struct {
		name string
		call func(x onionArgs) ([]byte, int)
	}{
		{"WrapOnion", func(x onionArgs) ([]byte, int) { return impl.WrapOnion(x.text, x.n, x.list, x.b) }},
		{"WrapReply", func(x onionArgs) ([]byte, int) { return impl.WrapReply(x.text, x.b) }},
		{"OpenReply", func(x onionArgs) ([]byte, int) { return impl.OpenReply(x.list, x.b) }},
	} {
		for _, layers := range layerCounts() {
			for _, size := range []int{0, 1, 64, 200} {
				b, whole := guarded(someBytes(size))
				x := onionArgs{someKey(), 3, sharesOf(layers), b}
				first, code := f.call(x)
				want := string(first)
				second, _ := f.call(x)
				overwrite(first)
				if _, asBefore := guarded(someBytes(size)); !bytes.Equal(whole, asBefore) {
					t.Errorf("%s of %s shares memory with its bytes", f.name, x)
				}
				overwrite(whole)
				if code != impl.OK || string(second) != want {
					t.Errorf("%s of %s: an answer was changed by another one or by an argument, code %d", f.name, x, code)
				}
				x.b = someBytes(size)
				third, code := f.call(x)
				wantText(t, f.name+" for the third time", string(third), code, want)
			}
		}
	}
}

func TestP1PeeledTextsAreNewMemory(t *testing.T) {
	secrets := secretsOf(2)
	forms := otherForms(7, otherHops(t, someKey(), 7, keysFor(t, secrets)), "payload")
	onion := []byte(forms[0])
	p, code := impl.PeelOnion(secrets[0], 7, onion)
	want := impl.Peeled{Inner: strings.Clone(p.Inner), Tag: strings.Clone(p.Tag), Reply: strings.Clone(p.Reply)}
	whole, _, wholeCode := impl.PeelAll(nil, 7, onion)
	left, n, leftCode := impl.PeelAll(secrets, 7, onion)
	overwrite(onion)
	impl.PeelOnion(secrets[1], 7, []byte(forms[1]))
	if code != impl.OK || p != want || p.Inner != forms[1] {
		t.Error("what PeelOnion answered was changed by its argument or by another call")
	}
	if wholeCode != impl.OK || leftCode != impl.OK || n != 2 || whole != forms[0] || left != "payload" {
		t.Error("what PeelAll answered was changed by its argument")
	}
}

func TestP1ReplyKeysAreNewMemory(t *testing.T) {
	keys := keysFor(t, secretsOf(4))
	first, _ := impl.ReplyKeys(someKey(), 7, keys)
	second, code := impl.ReplyKeys(someKey(), 7, keys)
	clear(first[:cap(first)])
	if !slices.Equal(keys, keysFor(t, secretsOf(4))) {
		t.Error("ReplyKeys answers in the memory of its keys")
	}
	clear(keys)
	for hop, h := range otherHops(t, someKey(), 7, keysFor(t, secretsOf(4))) {
		if code != impl.OK || second[hop] != h.reply {
			t.Error("an answer of ReplyKeys was changed by another one or by its keys, hop", hop)
		}
	}
}

func TestP1OnionOfNilAndEmpty(t *testing.T) {
	for _, f := range onionCalls() {
		for _, x := range someOnionArgs(t) {
			x.list = nil
			want, wantedCode := f.call(x)
			for _, empty := range [][]string{{}, make([]string, 0, 70)} {
				x.list = empty
				if got, code := f.call(x); got != want || code != wantedCode {
					t.Errorf("%s of %s: nil and an empty list differ", f.name, x)
				}
			}
		}
		for _, x := range someOnionArgs(t) {
			x.b = nil
			want, wantedCode := f.call(x)
			for _, empty := range [][]byte{{}, make([]byte, 0, 70)} {
				x.b = empty
				if got, code := f.call(x); got != want || code != wantedCode {
					t.Errorf("%s of %s: nil and no bytes differ", f.name, x)
				}
			}
		}
	}
}

// onionAnswers tells what all functions of the chapter answer, in one order or the other.
func onionAnswers(t *testing.T) func(backwards bool) map[string]string {
	all := someOnionArgs(t)
	return func(backwards bool) map[string]string {
		args, calls := slices.Clone(all), onionCalls()
		if backwards {
			slices.Reverse(args)
			slices.Reverse(calls)
		}
		out := map[string]string{}
		for _, x := range args {
			for _, f := range calls {
				out[fmt.Sprintf("%s %x %d %x %x", f.name, x.text, x.n, x.list, x.b)] = fmt.Sprintln(f.call(x))
			}
			size, code := impl.OnionSize(len(x.list), len(x.b))
			out[fmt.Sprint("OnionSize ", len(x.list), " ", len(x.b))] = fmt.Sprintln(size, code)
		}
		return out
	}
}

func TestP1OnionAlikeArgumentsAlikeAnswers(t *testing.T) { wantAlike(t, onionAnswers(t)) }

func TestP1OnionCallsBesideEachOther(t *testing.T) { wantAlikeBeside(t, onionAnswers(t)) }
