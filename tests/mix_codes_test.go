package tests

import (
	"fmt"
	"math"
	"slices"
	"testing"

	"loop.example/g00254/impl"
)

// mixArgs are what the functions of the chapter are handed, each of them some: numbers are choices or an order; n is how
// many, a round or a count.
type mixArgs struct {
	numbers, words     []int
	n                  int
	secret             string
	items, noise, seen []string
	x                  impl.MixOut
	bodies             []string
}

func (a mixArgs) String() string {
	return fmt.Sprintf("%d numbers %s, %d words %s, n %d, %d bytes, %d items, %d noise, %d seen, from %s, %d replies %s, %d bodies",
		len(a.numbers), told(a.numbers), len(a.words), told(a.words), a.n, len(a.secret), len(a.items), len(a.noise), len(a.seen),
		told(a.x.From), len(a.x.Replies), told(a.x.Replies), len(a.bodies))
}

// mixCall tells an answer as a text, the empty one of a zero answer; its faults stand as the chapter names them.
type mixCall struct {
	name   string
	call   func(a mixArgs) (string, int)
	faults func(a mixArgs) []fault
}

func numbersToldUnlessNone(list []int) string { return toldUnlessZero(len(list) == 0, list) }

func (a mixArgs) orderFaults() []fault {
	return []fault{{len(a.numbers) > 4096, impl.ErrLong}, {!rightPerm(a.numbers), impl.ErrBad}}
}

func orderCalls() []mixCall {
	return []mixCall{
		{"PermOf", func(a mixArgs) (string, int) {
			order, code := impl.PermOf(a.numbers)
			return numbersToldUnlessNone(order), code
		}, func(a mixArgs) []fault {
			return []fault{{len(a.numbers) > 4096, impl.ErrLong}, {!rightChoices(a.numbers), impl.ErrRange}}
		}},
		{"ChoicesOf", func(a mixArgs) (string, int) {
			choices, code := impl.ChoicesOf(a.numbers)
			return numbersToldUnlessNone(choices), code
		}, mixArgs.orderFaults},
		{"InvertPerm", func(a mixArgs) (string, int) {
			order, code := impl.InvertPerm(a.numbers)
			return numbersToldUnlessNone(order), code
		}, mixArgs.orderFaults},
		{"ShuffleOf", func(a mixArgs) (string, int) {
			order, taken, code := impl.ShuffleOf(a.words, a.n)
			return toldUnlessZero(len(order) == 0 && taken == 0, fmt.Sprint(order, taken)), code
		}, func(a mixArgs) []fault {
			return []fault{
				{len(a.words) > 4096, impl.ErrLong}, {a.wrongWords(), impl.ErrBad}, {a.n < 1 || a.n > 16, impl.ErrRange},
				{a.wordsRunOut(a.n), impl.ErrMissing},
			}
		}},
	}
}

func (a mixArgs) wrongWords() bool {
	return len(a.words) > 2000 || slices.ContainsFunc(a.words, func(word int) bool { return !within(word, 65535) })
}

// wordsRunOut is asked of any arguments, for all faults are told at once; it tells of right ones alone.
func (a mixArgs) wordsRunOut(n int) bool {
	if a.wrongWords() || n < 1 || n > 16 {
		return false
	}
	_, _, code := otherShuffle(a.words, n)
	return code != impl.OK
}

func wrongForBoard(items []string) bool {
	return len(items) > 64 || slices.ContainsFunc(items, func(item string) bool { return len(item) > 400 })
}

// mixItemsCall has the faults of items that do not open, so that noise alone goes on.
func mixItemsCall() mixCall {
	return mixCall{"MixItems", func(a mixArgs) (string, int) {
		x, code := impl.MixItems(a.secret, a.n, a.items, a.noise, a.seen, a.words)
		return mixTold(x), code
	}, func(a mixArgs) []fault {
		long := len(a.secret) > 65536 || max(len(a.items), len(a.noise), len(a.seen), len(a.words)) > 4096
		return []fault{
			{long, impl.ErrLong}, {len(a.secret) != 32, impl.ErrBad}, {a.wrongWords(), impl.ErrBad},
			{wrongForBoard(a.items) || wrongForBoard(a.noise), impl.ErrBad}, {!within(a.n, 1000000), impl.ErrRange},
			{len(a.items)+len(a.noise) > 16, impl.ErrRange}, {len(a.seen) > 64, impl.ErrRange}, {a.wordsRunOut(len(a.noise)), impl.ErrMissing},
		}
	}}
}

func routeBackCall() mixCall {
	return mixCall{"RouteBack", func(a mixArgs) (string, int) {
		back, code := impl.RouteBack(a.x, a.n, a.bodies)
		return toldUnlessZero(len(back) == 0, back), code
	}, func(a mixArgs) []fault {
		uneven := len(a.x.From) > 16 || len(a.x.Replies) != len(a.x.From) || len(a.bodies) != len(a.x.From)
		return []fault{
			{len(a.bodies) > 4096, impl.ErrLong}, {!within(a.n, 16), impl.ErrRange}, {uneven, impl.ErrBad},
			{wrongForBoard(a.bodies), impl.ErrBad}, {!uneven && !rightWaysBack(a.x, a.n), impl.ErrBad},
		}
	}}
}

func mixCalls() []mixCall { return append(orderCalls(), mixItemsCall(), routeBackCall()) }

func wantMixCode(t *testing.T, f mixCall, a mixArgs) {
	t.Helper()
	want := firstFault(f.faults(a))
	got, code := f.call(a)
	if code != want || code != impl.OK && got != "" {
		t.Errorf("%s of %s: %.200q, code %d; want code %d", f.name, a, got, code, want)
	}
}

// codeOrders are choices, orders and what is neither, with all lengths at which a code changes.
func codeOrders() [][]int {
	out := append(wrongPerms()[:60], someChoices()...)
	for _, n := range []int{15, 16, 17, impl.MaxList, impl.MaxList + 1} {
		out = append(out, make([]int, n), numbersUpTo(n), slices.Repeat([]int{-1}, n), turnedRound(numbersUpTo(n)))
	}
	return out
}

func codeWords() [][]int {
	return [][]int{
		nil, {0}, {65535}, {3, 65535, 2}, make([]int, 14), make([]int, 15), make([]int, 2000), slices.Repeat([]int{65535}, 2000),
		{-1}, {0, 65536}, {math.MinInt}, {1, math.MaxInt}, make([]int, 2001), make([]int, impl.MaxList),
		make([]int, impl.MaxList+1), slices.Repeat([]int{-1}, impl.MaxList+1),
	}
}

func codeCounts() []int {
	return []int{math.MinInt, -1, 0, 1, 2, 3, 15, 16, 17, 1000000, 1000001, math.MaxInt}
}

// TestP1OrderCodes holds each code against the first fault that the chapter names, over all that may be wrong together.
func TestP1OrderCodes(t *testing.T) {
	for _, f := range orderCalls() {
		for _, numbers := range codeOrders() {
			wantMixCode(t, f, mixArgs{numbers: numbers, n: 1})
		}
		for _, words := range codeWords() {
			for _, n := range codeCounts() {
				wantMixCode(t, f, mixArgs{words: words, n: n})
			}
		}
	}
}

// codeItems do not open; they have all lengths at which a code changes.
func codeItems() [][]string {
	return [][]string{
		nil, someItems(1, 47), someItems(2, 0), someItems(15, 5), someItems(16, 5), someItems(17, 5), someItems(64, 3), someItems(65, 3),
		{"", noughts(401)}, {someText(impl.MaxText + 1)}, make([]string, impl.MaxList), make([]string, impl.MaxList+1),
	}
}

func codeSeen() [][]string {
	return [][]string{nil, oldTags(64), make([]string, 65), {someText(impl.MaxText + 1)}, make([]string, impl.MaxList+1)}
}

func fewCodeWords() [][]int {
	return [][]int{nil, make([]int, 15), {65536}, make([]int, 2001), make([]int, impl.MaxList+1)}
}

func TestP1MixCodes(t *testing.T) {
	f, lists, seenLists, wordLists := mixItemsCall(), codeItems(), codeSeen(), fewCodeWords()
	for _, secret := range []string{"", someText(31), secretOf(0), someText(33), someText(impl.MaxText + 1)} {
		for _, round := range []int{math.MinInt, -1, 0, 1000000, 1000001, math.MaxInt} {
			for _, items := range lists {
				for _, noise := range lists {
					for _, seen := range seenLists {
						for _, words := range wordLists {
							wantMixCode(t, f, mixArgs{secret: secret, n: round, items: items, noise: noise, seen: seen, words: words})
						}
					}
				}
			}
		}
	}
}

// codeBacks are ways back, right ones and wrong ones.
func codeBacks() []impl.MixOut {
	short, long := mixFrom(1, -1, 0), mixFrom(1, -1, 0)
	short.Replies[0], long.Replies[2] = someText(31), someText(impl.MaxText+1)
	fewer, more := mixFrom(1, -1, 0), mixFrom(1, -1, 0)
	fewer.Replies, more.Replies = fewer.Replies[:2], append(more.Replies, someKey())
	return []impl.MixOut{
		{}, mixFrom(0), mixFrom(-1), mixFrom(1, -1, 0), mixFrom(-1, -1, -1), mixFrom(0, 1, 0), mixFrom(0, 1, -2), mixFrom(0, 1, 16),
		mixFrom(0, 1, math.MinInt), mixFrom(math.MaxInt, 1, 0), short, long, fewer, more, mixFrom(numbersUpTo(15)...), mixFrom(numbersUpTo(16)...),
		mixFrom(numbersUpTo(17)...), mixFrom(append(numbersUpTo(16), -1)...), mixFrom(make([]int, impl.MaxList+1)...),
	}
}

func codeBodies() [][]string {
	return [][]string{
		nil, bodiesFor(1), bodiesFor(2), bodiesFor(3), {"", noughts(400), ""}, {"", noughts(401), ""}, {"", "", someText(impl.MaxText + 1)}, bodiesFor(4),
		bodiesFor(15), bodiesFor(16), bodiesFor(17), make([]string, 65), make([]string, impl.MaxList), make([]string, impl.MaxList+1),
	}
}

func TestP1BackCodes(t *testing.T) {
	f := routeBackCall()
	for _, x := range codeBacks() {
		for _, count := range codeCounts() {
			for _, bodies := range codeBodies() {
				wantMixCode(t, f, mixArgs{x: x, n: count, bodies: bodies})
			}
		}
	}
}

// TestP1MixesAtBothEndsOfInt puts the least and the greatest int into each place and into several together.
func TestP1MixesAtBothEndsOfInt(t *testing.T) {
	ends := []int{math.MinInt, math.MinInt + 1, math.MinInt / 2, math.MaxInt / 2, math.MaxInt/2 + 1, math.MaxInt - 1, math.MaxInt}
	right := func() mixArgs {
		return mixArgs{
			numbers: []int{2, 0, 1}, words: []int{4, 1}, n: 3, secret: secretOf(0), items: []string{"bad"}, noise: noiseItems(3),
			x: mixFrom(1, -1, 2), bodies: bodiesFor(3),
		}
	}
	for _, f := range mixCalls() {
		wantMixCode(t, f, right())
		for _, end := range ends {
			for _, other := range ends {
				for _, change := range []func(a *mixArgs){
					func(a *mixArgs) { a.n = end },
					func(a *mixArgs) { a.numbers[0] = end },
					func(a *mixArgs) { a.numbers[2] = end },
					func(a *mixArgs) { a.numbers = []int{end} },
					func(a *mixArgs) { a.numbers = []int{end, other} },
					func(a *mixArgs) { a.words[1] = end },
					func(a *mixArgs) { a.words, a.n = []int{end, other}, 1 },
					func(a *mixArgs) { a.x.From[0] = end },
					func(a *mixArgs) { a.x.From[1], a.x.From[2] = end, other },
					func(a *mixArgs) { a.x.From[0], a.n = end, other },
					func(a *mixArgs) { a.x.Bad, a.x.Again = end, other },
				} {
					a := right()
					change(&a)
					wantMixCode(t, f, a)
				}
			}
		}
	}
}

// someMixArgs are right for each call, and something comes again, is bad and is noise.
func someMixArgs(t *testing.T) mixArgs {
	list := onionsOf(t, 1, 2, 1, 3, 4)
	items := append(itemsOf(list), "bad")
	x, _ := otherMix(append(list, sent{item: "bad"}), noiseItems(2), oldTags(3), otherWords(someKey(), 30))
	return mixArgs{
		numbers: []int{2, 1, 0}, words: otherWords(someKey(), 30), n: 7, secret: secretOf(0), items: items, noise: noiseItems(2),
		seen: oldTags(3), x: x, bodies: bodiesFor(len(x.From)),
	}
}

// manyMixArgs are right and wrong ones.
func manyMixArgs(t *testing.T) []mixArgs {
	some := someMixArgs(t)
	out := []mixArgs{{}, some}
	for _, numbers := range codeOrders() {
		a := mixArgs{numbers: numbers}
		out = append(out, a)
	}
	for i, words := range codeWords() {
		a := some
		a.words, a.n = words, 1+i
		out = append(out, a)
	}
	for i, items := range codeItems() {
		with, beside := some, some
		with.items, with.seen = items, codeSeen()[i%len(codeSeen())]
		beside.noise = items
		out = append(out, with, beside)
	}
	for i, x := range codeBacks() {
		for k, bodies := range codeBodies() {
			if (i+k)%3 == 0 || len(bodies) == len(x.From) {
				out = append(out, mixArgs{x: x, bodies: bodies, n: 3 + k})
			}
		}
	}
	return out
}

// guardedMix has the lists of arguments that lie in the middle of others whose other elements no call has to do with.
type guardedMix struct {
	numbers [3][]int
	texts   [7][]string
}

func (a mixArgs) guardedIn() (inside mixArgs, w guardedMix) {
	inside = a
	inside.numbers, w.numbers[0] = guardedNumbers(a.numbers)
	inside.words, w.numbers[1] = guardedNumbers(a.words)
	inside.x.From, w.numbers[2] = guardedNumbers(a.x.From)
	inside.items, w.texts[0] = guardedItems(a.items)
	inside.noise, w.texts[1] = guardedItems(a.noise)
	inside.seen, w.texts[2] = guardedItems(a.seen)
	inside.bodies, w.texts[3] = guardedItems(a.bodies)
	inside.x.Items, w.texts[4] = guardedItems(a.x.Items)
	inside.x.Replies, w.texts[5] = guardedItems(a.x.Replies)
	inside.x.Seen, w.texts[6] = guardedItems(a.x.Seen)
	return inside, w
}

func (w guardedMix) same(v guardedMix) bool {
	for i := range w.numbers {
		if !slices.Equal(w.numbers[i], v.numbers[i]) {
			return false
		}
	}
	for i := range w.texts {
		if !slices.Equal(w.texts[i], v.texts[i]) {
			return false
		}
	}
	return true
}

// tight has lists without any room behind.
func (a mixArgs) tight() mixArgs {
	a.numbers, a.words, a.x.From = slices.Clip(slices.Clone(a.numbers)), slices.Clip(slices.Clone(a.words)), slices.Clip(slices.Clone(a.x.From))
	for _, list := range []*[]string{&a.items, &a.noise, &a.seen, &a.bodies, &a.x.Items, &a.x.Replies, &a.x.Seen} {
		*list = slices.Clip(slices.Clone(*list))
	}
	return a
}

func TestP1MixesAreNotWrittenIntoNorReadBehind(t *testing.T) {
	for _, a := range manyMixArgs(t) {
		for _, f := range mixCalls() {
			inside, wholes := a.guardedIn()
			got, code := f.call(inside)
			if _, want := a.guardedIn(); !wholes.same(want) {
				t.Errorf("%s of %s wrote into its lists, or around them", f.name, a)
			}
			if want, wanted := f.call(a.tight()); got != want || code != wanted {
				t.Errorf("%s of %s has another answer with others behind", f.name, a)
			}
		}
	}
}

func spoilNumbers(list []int) {
	for i := range list[:cap(list)] {
		list[:cap(list)][i] = -99
	}
}

func spoilTexts(list []string) {
	for i := range list[:cap(list)] {
		list[:cap(list)][i] = "spoilt"
	}
}

// TestP1AnsweredOrdersAreNewMemory spoils one answer and looks at the argument and at another answer.
func TestP1AnsweredOrdersAreNewMemory(t *testing.T) {
	for _, f := range []struct {
		name string
		call func(numbers []int) ([]int, int)
	}{
		{"PermOf", impl.PermOf}, {"ChoicesOf", impl.ChoicesOf}, {"InvertPerm", impl.InvertPerm},
		{"ShuffleOf", func(words []int) ([]int, int) {
			order, _, code := impl.ShuffleOf(words, 3)
			return order, code
		}},
	} {
		for _, numbers := range [][]int{{0, 1}, {2, 1, 0}, {0, 1, 2}, {1, 0, 2, 3}, {3, 2, 1, 0}} {
			inside, whole := guardedNumbers(numbers)
			first, code := f.call(inside)
			second, _ := f.call(inside)
			want := slices.Clone(second)
			spoilNumbers(first)
			if _, untouched := guardedNumbers(numbers); !slices.Equal(whole, untouched) {
				t.Errorf("%s of %v answers in the memory of its argument", f.name, numbers)
			}
			spoilNumbers(inside)
			if !slices.Equal(second, want) || code != impl.OK && len(second) > 0 {
				t.Errorf("%s of %v hands out memory that is not new", f.name, numbers)
			}
		}
	}
}

// TestP1AnsweredMixesAreNewMemory spoils the lists of an answer one by one and looks at all others.
func TestP1AnsweredMixesAreNewMemory(t *testing.T) {
	for _, a := range []mixArgs{someMixArgs(t), {secret: secretOf(0), seen: oldTags(3)}, {secret: secretOf(0), noise: noiseItems(1)}} {
		want, wanted := impl.MixItems(a.secret, 7, a.items, a.noise, a.seen, a.words)
		want = copyOfMix(want)
		for _, spoil := range []func(x *impl.MixOut){
			func(x *impl.MixOut) { spoilTexts(x.Items); x.Items = want.Items },
			func(x *impl.MixOut) { spoilTexts(x.Replies); x.Replies = want.Replies },
			func(x *impl.MixOut) { spoilTexts(x.Seen); x.Seen = want.Seen },
			func(x *impl.MixOut) { spoilNumbers(x.From); x.From = want.From },
		} {
			inside, wholes := a.guardedIn()
			first, code := impl.MixItems(inside.secret, 7, inside.items, inside.noise, inside.seen, inside.words)
			second, _ := impl.MixItems(inside.secret, 7, inside.items, inside.noise, inside.seen, inside.words)
			spoil(&first)
			if code != wanted || !sameMix(first, want) {
				t.Error("two lists of an answer share memory, or it is another one")
			}
			if _, untouched := a.guardedIn(); !wholes.same(untouched) {
				t.Error("MixItems answers in the memory of an argument")
			}
			for _, list := range [][]string{inside.items, inside.noise, inside.seen} {
				spoilTexts(list)
			}
			if !sameMix(second, want) {
				t.Error("MixItems: an answer hangs on the memory of another one or of an argument")
			}
		}
	}
}

func TestP1AnsweredBodiesAreNewMemory(t *testing.T) {
	a := someMixArgs(t)
	want := otherBack(a.x, a.n, a.bodies)
	inside, wholes := a.guardedIn()
	first, _ := impl.RouteBack(inside.x, inside.n, inside.bodies)
	second, code := impl.RouteBack(inside.x, inside.n, inside.bodies)
	spoilTexts(first)
	if _, untouched := a.guardedIn(); !wholes.same(untouched) {
		t.Error("RouteBack answers in the memory of an argument")
	}
	spoilTexts(inside.bodies)
	spoilTexts(inside.x.Replies)
	spoilNumbers(inside.x.From)
	if code != impl.OK || !slices.Equal(second, want) {
		t.Errorf("RouteBack: an answer hangs on the memory of another one or of an argument, code %d", code)
	}
}

// TestP1MixedTextsAreNewMemory: noise and tags go into the answer as texts of their own.
func TestP1MixedTextsAreNewMemory(t *testing.T) {
	a := someMixArgs(t)
	x, code := impl.MixItems(a.secret, 7, a.items, a.noise, a.seen, a.words)
	if code != impl.OK {
		t.Fatal("MixItems", code)
	}
	handed := slices.Concat(a.items, a.noise, a.seen, []string{a.secret})
	for _, text := range slices.Concat(x.Items, x.Replies, x.Seen) {
		for _, given := range handed {
			if text != "" && sharesText(text, given) {
				t.Errorf("%q shares its memory with an argument", text)
			}
		}
	}
	texts := slices.Concat(x.Items, x.Replies, x.Seen)
	for i, text := range texts {
		for _, other := range texts[:i] {
			if text != "" && sharesText(text, other) {
				t.Errorf("%q and %q share their memory", text, other)
			}
		}
	}
}

func TestP1MixesOfNilAndEmpty(t *testing.T) {
	for _, a := range append(manyMixArgs(t)[:30], someMixArgs(t)) {
		for _, f := range mixCalls() {
			for list := range 9 {
				with := a
				numbers := []*[]int{&with.numbers, &with.words, &with.x.From}
				texts := []*[]string{&with.items, &with.noise, &with.seen, &with.bodies, &with.x.Replies, &with.x.Items}
				empty := func(number []int, text []string) (string, int) {
					if list < len(numbers) {
						*numbers[list] = number
					} else {
						*texts[list-len(numbers)] = text
					}
					return f.call(with)
				}
				want, wanted := empty(nil, nil)
				for _, room := range []int{0, 70} {
					if got, code := empty(make([]int, 0, room), make([]string, 0, room)); got != want || code != wanted {
						t.Errorf("%s of %s: nil and an empty list differ, list %d", f.name, a, list)
					}
				}
			}
		}
	}
	for _, empty := range [][]int{nil, {}, make([]int, 0, 20)} {
		wantPerm(t, empty, []int{0})
		wantNoOrder(t, empty, impl.ErrBad)
		wantShuffle(t, empty, 1, []int{0}, 0, impl.OK)
		wantShuffle(t, empty, 2, nil, 0, impl.ErrMissing)
	}
}

// mixAnswers tells what all functions of the chapter answer, in one order or the other; a call is known by the place of
// its arguments, for their texts would be long.
func mixAnswers(t *testing.T) func(backwards bool) map[string]string {
	args := manyMixArgs(t)
	return func(backwards bool) map[string]string {
		out := map[string]string{}
		for i := range args {
			if backwards {
				i = len(args) - 1 - i
			}
			for _, f := range mixCalls() {
				out[fmt.Sprint(f.name, " of ", i)] = fmt.Sprintln(f.call(args[i]))
			}
		}
		return out
	}
}

func TestP1MixesAlikeArgumentsAlikeAnswers(t *testing.T) { wantAlike(t, mixAnswers(t)) }

func TestP1MixCallsBesideEachOther(t *testing.T) { wantAlikeBeside(t, mixAnswers(t)) }
