package tests

import (
	"fmt"
	"math"
	"slices"
	"testing"

	"loop.example/g00254/impl"
)

// bloomArgs are what the functions of the chapter are handed, each of them some.
type bloomArgs struct {
	x, y         impl.Bloom
	prime, width int
	salts        []impl.Salt
	tags         []int
	part, tag    int
}

func (a bloomArgs) String() string {
	return fmt.Sprintf("%s and %s; prime %d, width %d, %d salts %s, %d tags %s, part %d, tag %d",
		bloomTold(a.x), bloomTold(a.y), a.prime, a.width, len(a.salts), told(a.salts), len(a.tags), told(a.tags), a.part, a.tag)
}

// bloomCall tells an answer as a text, the empty one of a zero answer; its faults stand as the chapter names them.
type bloomCall struct {
	name   string
	call   func(a bloomArgs) (string, int)
	faults func(a bloomArgs) []fault
}

// tagFaults are those of a filter that is handed a tag.
func (a bloomArgs) tagFaults() []fault {
	return []fault{{!rightBloom(a.x), impl.ErrBad}, {!isTag(a.tag, a.x.Prime), impl.ErrRange}}
}

func filterCalls() []bloomCall {
	return []bloomCall{
		{"BloomOK", func(a bloomArgs) (string, int) { return fmt.Sprint(impl.BloomOK(a.x)), impl.OK },
			func(a bloomArgs) []fault { return nil }},
		{"BloomPlace", func(a bloomArgs) (string, int) {
			place, code := impl.BloomPlace(a.x, a.part, a.tag)
			return toldUnlessZero(place == 0, place), code
		}, func(a bloomArgs) []fault {
			return append(a.tagFaults(), fault{!within(a.part, len(a.x.Salts)-1), impl.ErrRange})
		}},
		{"BloomAdd", func(a bloomArgs) (string, int) {
			x, code := impl.BloomAdd(a.x, a.tag)
			return bloomTold(x), code
		}, bloomArgs.tagFaults},
		{"BloomHas", func(a bloomArgs) (string, int) {
			has, code := impl.BloomHas(a.x, a.tag)
			return toldUnlessZero(!has, has), code
		}, bloomArgs.tagFaults},
		{"BloomMerge", func(a bloomArgs) (string, int) {
			x, code := impl.BloomMerge(a.x, a.y)
			return bloomTold(x), code
		}, func(a bloomArgs) []fault {
			differ := a.x.Prime != a.y.Prime || a.x.Width != a.y.Width || !slices.Equal(a.x.Salts, a.y.Salts)
			return []fault{{!rightBloom(a.x), impl.ErrBad}, {!rightBloom(a.y), impl.ErrBad}, {differ, impl.ErrForm}}
		}},
	}
}

func newBloomCall() bloomCall {
	return bloomCall{"NewBloom", func(a bloomArgs) (string, int) {
		x, code := impl.NewBloom(a.prime, a.width, a.salts)
		return bloomTold(x), code
	}, func(a bloomArgs) []fault {
		wrong := !rightSizes(a.prime, a.width) || !rightSalts(a.prime, a.salts)
		return []fault{{len(a.salts) > 4096, impl.ErrLong}, {wrong, impl.ErrRange}}
	}}
}

func falseSaltsCall() bloomCall {
	return bloomCall{"FalseSalts", func(a bloomArgs) (string, int) {
		count, code := impl.FalseSalts(a.prime, a.width, a.tags, a.tag)
		return toldUnlessZero(count == 0, count), code
	}, func(a bloomArgs) []fault {
		wrong := a.prime > 61 || !rightSizes(a.prime, a.width) || len(a.tags) > 8 || !isTag(a.tag, a.prime)
		out := []fault{{len(a.tags) > 4096, impl.ErrLong}, {wrong, impl.ErrRange}}
		for _, tag := range a.tags {
			out = append(out, fault{!isTag(tag, a.prime), impl.ErrRange}, fault{tag == a.tag, impl.ErrTwice})
		}
		return out
	}}
}

func bloomCalls() []bloomCall { return append(filterCalls(), newBloomCall(), falseSaltsCall()) }

func wantBloomCode(t *testing.T, f bloomCall, a bloomArgs) {
	t.Helper()
	want := firstFault(f.faults(a))
	got, code := f.call(a)
	if code != want || code != impl.OK && got != "" {
		t.Errorf("%s of %s: %q, code %d; want code %d", f.name, a, got, code, want)
	}
}

// codeBlooms are right and wrong filters of all kinds, few of each.
func codeBlooms() []impl.Bloom {
	x, others := otherShapes()
	full := patterns(x)[0]
	return slices.Concat([]impl.Bloom{x, full, otherAdd(x, 3, 5), emptyBloom(509, 64, someSalts(509, 4)...), emptyBloom(2, 1, impl.Salt{})}, others, fewWrongBlooms())
}

func codeTags() []int {
	return []int{math.MinInt, -1, 0, 1, 2, 10, 11, 12, 13, 508, 509, math.MaxInt}
}

// TestP1FilterCodes holds each code against the first fault that the chapter names, over all that may be wrong together.
func TestP1FilterCodes(t *testing.T) {
	for _, f := range filterCalls() {
		for _, x := range codeBlooms() {
			for _, tag := range codeTags() {
				for _, part := range []int{math.MinInt, -1, 0, 1, 3, 4, math.MaxInt} {
					wantBloomCode(t, f, bloomArgs{x: x, y: x, part: part, tag: tag})
				}
			}
		}
	}
}

func TestP1JoinCodes(t *testing.T) {
	for _, f := range filterCalls() {
		for _, x := range codeBlooms() {
			for _, y := range codeBlooms() {
				wantBloomCode(t, f, bloomArgs{x: x, y: y})
			}
		}
	}
}

// saltLists have all lengths at which a code changes, and salts that are wrong.
func saltLists() [][]impl.Salt {
	out := [][]impl.Salt{
		{{A: 1, B: 1}}, {{A: 10, B: 10}}, {{A: 11}}, {{B: 11}}, {{A: -1}}, {{B: -1}}, {{A: 508, B: 508}, {}}, {{}, {A: 509}}, {{}, {}, {}, {B: math.MaxInt}}, {{A: math.MinInt}},
	}
	for _, count := range []int{0, 1, 4, 5, 64, 65, impl.MaxList, impl.MaxList + 1} {
		out = append(out, make([]impl.Salt, count), slices.Repeat([]impl.Salt{{A: -1, B: 600}}, count))
	}
	return out
}

func codeSizes() []int {
	return []int{math.MinInt, -1, 0, 1, 2, 4, 11, 12, 60, 61, 62, 64, 65, 67, 509, 510, 521, math.MaxInt}
}

func TestP1NewFilterCodes(t *testing.T) {
	for _, prime := range codeSizes() {
		for _, width := range codeSizes() {
			for _, salts := range saltLists() {
				wantBloomCode(t, newBloomCall(), bloomArgs{prime: prime, width: width, salts: salts})
			}
		}
	}
}

// countedTags have all lengths at which a code changes, and tags that are wrong, ahead of others and behind them.
func countedTags() [][]int {
	out := [][]int{
		nil, {0}, {1}, {-1}, {2}, {11}, {60}, {61}, {0, 2}, {2, 0}, {0, -1}, {-1, 0}, {61, 10}, {10, 61}, {2, 2, 2}, {1, 2, 3, 4, 5, 6, 7, 8},
		{math.MinInt}, {math.MaxInt}, {2, math.MaxInt, 10}, {math.MaxInt, math.MinInt},
	}
	for _, count := range []int{8, 9, impl.MaxList, impl.MaxList + 1} {
		out = append(out, slices.Repeat([]int{1}, count), slices.Repeat([]int{-1}, count))
	}
	return out
}

func TestP1FalseSaltsCodes(t *testing.T) {
	for _, prime := range codeSizes() {
		for _, width := range codeSizes() {
			for _, tags := range countedTags() {
				for _, other := range []int{math.MinInt, -1, 0, 1, 2, 10, 11, 60, 61, math.MaxInt} {
					wantBloomCode(t, falseSaltsCall(), bloomArgs{prime: prime, width: width, tags: tags, tag: other})
				}
			}
		}
	}
}

func longSalts() [][]impl.Salt {
	return [][]impl.Salt{make([]impl.Salt, impl.MaxList+1), slices.Repeat([]impl.Salt{{A: -1, B: -1}}, 2*impl.MaxList)}
}

// TestP1FiltersLongFirst: more salts or tags than a list may have come ahead of all else that is wrong.
func TestP1FiltersLongFirst(t *testing.T) {
	for _, prime := range append(farNumbers(), codeSizes()...) {
		for _, width := range append(farNumbers(), codeSizes()...) {
			for _, salts := range longSalts() {
				wantNew(t, prime, width, salts, impl.ErrLong)
			}
			for _, tags := range longNumbers() {
				wantFalse(t, prime, width, tags, 3, 0, impl.ErrLong)
				wantFalse(t, prime, width, tags, -1, 0, impl.ErrLong)
			}
		}
	}
}

// TestP1LongListsWithinFilters: these are bounded by the chapter alone.
func TestP1LongListsWithinFilters(t *testing.T) {
	right := emptyBloom(11, 4, impl.Salt{A: 2, B: 3})
	for _, x := range []impl.Bloom{
		{Prime: 11, Width: 4, Salts: make([]impl.Salt, impl.MaxList+1), Bits: make([]bool, 4*(impl.MaxList+1))},
		{Prime: 11, Width: 4, Salts: right.Salts, Bits: make([]bool, impl.MaxText+1)},
	} {
		if impl.BloomOK(x) {
			t.Error("BloomOK of a filter with a long list")
		}
		wantPlace(t, x, 0, 0, 0, impl.ErrBad)
		wantNotPutIn(t, x, 0, impl.ErrBad)
		wantHas(t, x, 0, false, impl.ErrBad)
		wantNotMerged(t, x, right, impl.ErrBad)
		wantNotMerged(t, right, x, impl.ErrBad)
	}
}

// TestP1FiltersAtBothEndsOfInt puts the least and the greatest int into each place and into several together.
func TestP1FiltersAtBothEndsOfInt(t *testing.T) {
	ends := []int{math.MinInt, math.MinInt + 1, math.MinInt / 2, -1 << 32, 1 << 32, 1 << 62, math.MaxInt / 2, math.MaxInt - 1, math.MaxInt}
	for _, f := range bloomCalls() {
		for _, end := range ends {
			for _, other := range ends {
				for _, change := range []func(a *bloomArgs){
					func(a *bloomArgs) { a.x.Prime, a.prime = end, end },
					func(a *bloomArgs) { a.x.Width, a.width = end, end },
					func(a *bloomArgs) { a.x.Width, a.x.Bits, a.width = end, nil, other },
					func(a *bloomArgs) { a.y.Prime = end },
					func(a *bloomArgs) { a.y.Width = end },
					func(a *bloomArgs) { a.x.Salts[0].A, a.salts[0].A, a.tags[0] = end, end, end },
					func(a *bloomArgs) { a.x.Salts[1].B, a.salts[1].B, a.tags[1] = end, end, end },
					func(a *bloomArgs) { a.y.Salts[1] = impl.Salt{A: end, B: other} },
					func(a *bloomArgs) { a.part, a.tag = end, other },
					func(a *bloomArgs) { a.part = end },
					func(a *bloomArgs) { a.tag = end },
					func(a *bloomArgs) { a.x.Prime, a.x.Width, a.prime, a.width = end, other, end, other },
					func(a *bloomArgs) { a.x.Prime, a.x.Salts[0], a.tag = end, impl.Salt{A: other, B: other}, other },
					func(a *bloomArgs) { a.tags, a.tag = []int{end, other}, 1 },
				} {
					a := someBloomArgs()
					change(&a)
					wantBloomCode(t, f, a)
				}
			}
		}
	}
}

// someBloomArgs are right ones for each call.
func someBloomArgs() bloomArgs {
	salts := func() []impl.Salt { return []impl.Salt{{A: 2, B: 3}, {A: 0, B: 7}} }
	x := emptyBloom(11, 4, salts()...)
	return bloomArgs{x: otherAdd(x, 6), y: otherAdd(x, 10, 3), prime: 11, width: 4, salts: salts(), tags: []int{6, 3}, part: 1, tag: 5}
}

// manyBloomArgs are right and wrong ones.
func manyBloomArgs() []bloomArgs {
	out := []bloomArgs{{}, someBloomArgs()}
	blooms, salts, tags := codeBlooms(), saltLists(), countedTags()
	for i, x := range blooms {
		for k, y := range []impl.Bloom{x, blooms[(i+1)%len(blooms)], blooms[0]} {
			for tag := range 14 {
				n := 14*i + 5*k + tag
				out = append(out, bloomArgs{
					x: x, y: y, prime: 11, width: 4 + n%9, salts: salts[n%len(salts)], tags: tags[n%len(tags)], part: n % 5, tag: tag,
				})
			}
		}
	}
	return out
}

// guardedIn has lists that lie in the middle of others whose other elements no call has to do with.
func (a bloomArgs) guardedIn() (inside bloomArgs, wholes guardedLists) {
	inside = a
	var w guardedLists
	inside.x.Salts, w.salts[0] = guardedSalts(a.x.Salts)
	inside.y.Salts, w.salts[1] = guardedSalts(a.y.Salts)
	inside.salts, w.salts[2] = guardedSalts(a.salts)
	inside.x.Bits, w.bits[0] = guardedBits(a.x.Bits)
	inside.y.Bits, w.bits[1] = guardedBits(a.y.Bits)
	inside.tags, w.tags = guardedNumbers(a.tags)
	return inside, w
}

type guardedLists struct {
	salts [3][]impl.Salt
	bits  [2][]bool
	tags  []int
}

func (w guardedLists) same(v guardedLists) bool {
	for i := range w.salts {
		if !slices.Equal(w.salts[i], v.salts[i]) {
			return false
		}
	}
	return slices.Equal(w.bits[0], v.bits[0]) && slices.Equal(w.bits[1], v.bits[1]) && slices.Equal(w.tags, v.tags)
}

func guardedSalts(list []impl.Salt) (inside, whole []impl.Salt) {
	whole = slices.Concat([]impl.Salt{{A: -7, B: 7}}, list, slices.Repeat([]impl.Salt{{A: 5, B: 5}}, 70))
	return whole[1 : 1+len(list)], whole
}

func guardedBits(list []bool) (inside, whole []bool) {
	whole = slices.Concat([]bool{true, false}, list, slices.Repeat([]bool{false, true}, 300))
	return whole[2 : 2+len(list)], whole
}

// tight has lists without any room behind.
func (a bloomArgs) tight() bloomArgs {
	a.x, a.y = copyOf(a.x), copyOf(a.y)
	a.x.Salts, a.y.Salts, a.salts = slices.Clip(a.x.Salts), slices.Clip(a.y.Salts), slices.Clip(slices.Clone(a.salts))
	a.x.Bits, a.y.Bits, a.tags = slices.Clip(a.x.Bits), slices.Clip(a.y.Bits), slices.Clip(slices.Clone(a.tags))
	return a
}

func TestP1FiltersAreNotWrittenIntoNorReadBehind(t *testing.T) {
	for _, a := range manyBloomArgs() {
		for _, f := range bloomCalls() {
			inside, wholes := a.guardedIn()
			got, code := f.call(inside)
			if _, want := a.guardedIn(); !wholes.same(want) {
				t.Errorf("%s of %s wrote into its lists, or around them", f.name, a)
			}
			if want, wanted := f.call(a.tight()); got != want || code != wanted {
				t.Errorf("%s of %s has another answer with others behind", f.name, a)
			}
		}
	}
}

// spoil writes into an answer, and into all room that it has.
func spoil(x impl.Bloom) {
	for i := range x.Salts[:cap(x.Salts)] {
		x.Salts[:cap(x.Salts)][i] = impl.Salt{A: 99, B: -99}
	}
	for i := range x.Bits[:cap(x.Bits)] {
		x.Bits[:cap(x.Bits)][i] = !x.Bits[:cap(x.Bits)][i]
	}
}

// TestP1AnsweredFiltersAreNewMemory spoils one answer and looks at the arguments and at another answer.
func TestP1AnsweredFiltersAreNewMemory(t *testing.T) {
	for _, f := range []struct {
		name string
		call func(a bloomArgs) (impl.Bloom, int)
	}{
		{"NewBloom", func(a bloomArgs) (impl.Bloom, int) { return impl.NewBloom(a.x.Prime, a.x.Width, a.x.Salts) }},
		{"BloomAdd", func(a bloomArgs) (impl.Bloom, int) { return impl.BloomAdd(a.x, a.tag) }},
		{"BloomAdd of what is there", func(a bloomArgs) (impl.Bloom, int) { return impl.BloomAdd(a.x, 6) }},
		{"BloomMerge", func(a bloomArgs) (impl.Bloom, int) { return impl.BloomMerge(a.x, a.y) }},
		{"BloomMerge with itself", func(a bloomArgs) (impl.Bloom, int) { return impl.BloomMerge(a.x, a.x) }},
	} {
		inside, wholes := someBloomArgs().guardedIn()
		first, code := f.call(inside)
		second, _ := f.call(inside)
		want := copyOf(second)
		if code != impl.OK || !sameBloom(first, want) {
			t.Errorf("%s: %s, code %d; then %s", f.name, bloomTold(first), code, bloomTold(second))
		}
		spoil(first)
		if _, untouched := someBloomArgs().guardedIn(); !wholes.same(untouched) {
			t.Errorf("%s answers in the memory of an argument", f.name)
		}
		if !sameBloom(second, want) {
			t.Errorf("%s hands out memory that is not new", f.name)
		}
		spoil(inside.x)
		spoil(inside.y)
		if !sameBloom(second, want) {
			t.Errorf("%s: the answer hangs on the memory of an argument", f.name)
		}
	}
}

func TestP1FiltersOfNilAndEmpty(t *testing.T) {
	for _, a := range append(manyBloomArgs()[:40], someBloomArgs()) {
		a.x.Bits, a.y.Salts, a.y.Bits, a.salts, a.tags = nil, nil, nil, nil, nil
		for _, salts := range [][]impl.Salt{nil, a.x.Salts} {
			a.x.Salts = salts
			for _, f := range bloomCalls() {
				want, wanted := f.call(a)
				for _, room := range []int{0, 70} {
					with := a
					with.x.Bits, with.y.Bits, with.tags = make([]bool, 0, room), make([]bool, 0, room), make([]int, 0, room)
					with.y.Salts, with.salts = make([]impl.Salt, 0, room), make([]impl.Salt, 0, room)
					if len(salts) == 0 {
						with.x.Salts = make([]impl.Salt, 0, room)
					}
					if got, code := f.call(with); got != want || code != wanted {
						t.Errorf("%s of %s: nil and empty lists differ", f.name, a)
					}
				}
			}
		}
	}
	for _, empty := range [][]impl.Salt{nil, {}, make([]impl.Salt, 0, 4)} {
		wantNew(t, 11, 4, empty, impl.ErrRange)
	}
	for _, empty := range [][]int{nil, {}, make([]int, 0, 8)} {
		wantFalse(t, 5, 2, empty, 2, 0, impl.OK)
		wantFalse(t, 5, 2, empty, 5, 0, impl.ErrRange)
	}
}

// bloomAnswers tells what all functions of the chapter answer, in one order or the other; a call is known by the place of
// its arguments, for their texts would be long.
func bloomAnswers(backwards bool) map[string]string {
	args, calls := manyBloomArgs(), bloomCalls()
	out := map[string]string{}
	for i := range args {
		if backwards {
			i = len(args) - 1 - i
		}
		for _, f := range calls {
			out[fmt.Sprint(f.name, " of ", i)] = fmt.Sprintln(f.call(args[i]))
		}
		out[fmt.Sprint("PrimeOK of ", i)] = fmt.Sprint(impl.PrimeOK(i))
	}
	return out
}

func TestP1FiltersAlikeArgumentsAlikeAnswers(t *testing.T) { wantAlike(t, bloomAnswers) }

func TestP1FilterCallsBesideEachOther(t *testing.T) { wantAlikeBeside(t, bloomAnswers) }
