package tests

import (
	"slices"
	"testing"

	"loop.example/g00254/impl"
)

func TestP11NothingPutInNothingThere(t *testing.T) {
	for _, x := range emptyBlooms() {
		for tag := range x.Prime {
			wantHas(t, x, tag, false, impl.OK)
		}
	}
}

// tagOrders are lists of tags of a filter, in orders that differ, some of them twice.
func tagOrders(prime int) [][]int {
	tags := someTags(prime)
	back := slices.Clone(tags)
	slices.Reverse(back)
	spread := []int{}
	for i := range 9 {
		spread = append(spread, (i*i*5+i)%prime)
	}
	return [][]int{tags, back, spread, append(slices.Clone(spread), spread...)}
}

// TestP11PutInIsThere asks for all that was put in after each tag more.
func TestP11PutInIsThere(t *testing.T) {
	for _, x := range emptyBlooms() {
		for _, tags := range tagOrders(x.Prime) {
			filter := x
			for i, tag := range tags {
				filter = wantPutIn(t, filter, tag)
				for _, ahead := range tags[:i+1] {
					wantHas(t, filter, ahead, true, impl.OK)
				}
			}
			if !sameBloom(filter, otherAdd(x, tags...)) {
				t.Errorf("%v put in: %s", tags, bloomTold(filter))
			}
		}
	}
}

func TestP11AllTagsPutIn(t *testing.T) {
	for _, prime := range []int{2, 11, 61, 509} {
		for _, width := range edgeWidths(prime) {
			filter := emptyBloom(prime, width, someSalts(prime, 3)...)
			for tag := range prime {
				filter = wantPutIn(t, filter, tag)
			}
			for tag := range prime {
				wantHas(t, filter, tag, true, impl.OK)
			}
		}
	}
}

// TestP11OrderOfTagsIsNotSeen: filters with the same tags in them are the same.
func TestP11OrderOfTagsIsNotSeen(t *testing.T) {
	for _, x := range emptyBlooms() {
		var filters []impl.Bloom
		for _, tags := range tagOrders(x.Prime)[:2] {
			filter := x
			for _, tag := range append(tags, tags[0]) {
				filter = wantPutIn(t, filter, tag)
			}
			filters = append(filters, filter)
		}
		if !sameBloom(filters[0], filters[1]) {
			t.Errorf("%s; in another order %s", bloomTold(filters[0]), bloomTold(filters[1]))
		}
	}
}

// TestP11JustTheBitsOfATag: what was set stays set, and nothing is set but the tag's.
func TestP11JustTheBitsOfATag(t *testing.T) {
	for _, x := range emptyBlooms() {
		for _, y := range append(patterns(x), x) {
			for _, tag := range someTags(x.Prime) {
				z, code := impl.BloomAdd(y, tag)
				if code != impl.OK || len(z.Bits) != len(y.Bits) || z.Prime != y.Prime || z.Width != y.Width || !slices.Equal(z.Salts, y.Salts) {
					t.Fatalf("BloomAdd of %s; tag %d: %s, code %d", bloomTold(y), tag, bloomTold(z), code)
				}
				places := otherPlaces(x, tag)
				for place, isSet := range z.Bits {
					if isSet != (y.Bits[place] || slices.Contains(places, place)) {
						t.Errorf("BloomAdd of %s; tag %d: place %d is %v", bloomTold(y), tag, place, isSet)
					}
				}
			}
		}
	}
}

func setIn(x impl.Bloom, part int) int {
	count := 0
	for _, isSet := range x.Bits[part*x.Width : (part+1)*x.Width] {
		if isSet {
			count++
		}
	}
	return count
}

func TestP11OneBitOfEachPart(t *testing.T) {
	for _, x := range emptyBlooms() {
		for tag := 0; tag < x.Prime; tag += 1 + x.Prime/40 {
			filter := wantPutIn(t, x, tag)
			for part := range x.Salts {
				if set := setIn(filter, part); set != 1 {
					t.Errorf("tag %d has set %d bits of part %d", tag, set, part)
				}
			}
		}
	}
}

// TestP11HasIfAllBitsAreSet holds each tag against the bits alone, whoever has set them.
func TestP11HasIfAllBitsAreSet(t *testing.T) {
	for _, x := range emptyBlooms() {
		for _, y := range patterns(x) {
			for tag := 0; tag < x.Prime; tag += 1 + x.Prime/40 {
				wantHas(t, y, tag, otherHas(y, tag), impl.OK)
			}
		}
	}
}

func TestP11HasLacksOneBit(t *testing.T) {
	for _, x := range emptyBlooms() {
		full := patterns(x)[0]
		for _, tag := range someTags(x.Prime) {
			wantHas(t, full, tag, true, impl.OK)
			for _, place := range otherPlaces(x, tag) {
				lacks := copyOf(full)
				lacks.Bits[place] = false
				wantHas(t, lacks, tag, false, impl.OK)
			}
		}
	}
}

// TestP11TagsWhoseBitsOthersHaveSet: 0 has bits 0 and 3 in its parts, 6 has 2 and 0; with both put in 2, 4 and 8 are there
// too, for they have a bit of either.
func TestP11TagsWhoseBitsOthersHaveSet(t *testing.T) {
	x := emptyBloom(11, 4, impl.Salt{A: 1, B: 0}, impl.Salt{A: 2, B: 3})
	both := wantPutIn(t, wantPutIn(t, x, 0), 6)
	if want := []bool{true, false, true, false, true, false, false, true}; !slices.Equal(both.Bits, want) {
		t.Error("0 and 6 put in:", both.Bits)
	}
	for tag := range 11 {
		wantHas(t, both, tag, slices.Contains([]int{0, 2, 4, 6, 8}, tag), impl.OK)
	}
	four := wantPutIn(t, x, 4)
	for tag := range 11 {
		wantHas(t, four, tag, tag == 4 || tag == 8, impl.OK)
	}
}

// TestP11OneWideFilterHasAllOfOne: a width of 1 has one bit a part, which is that of every tag.
func TestP11OneWideFilterHasAllOfOne(t *testing.T) {
	for _, prime := range fewPrimes() {
		filter := wantPutIn(t, emptyBloom(prime, 1, someSalts(prime, 4)...), prime-1)
		for tag := range prime {
			wantHas(t, filter, tag, true, impl.OK)
		}
	}
}

func TestP11TagsOutOfBounds(t *testing.T) {
	for _, x := range emptyBlooms() {
		for _, y := range []impl.Bloom{x, patterns(x)[0], patterns(x)[1]} {
			for _, tag := range wrongTags(x.Prime) {
				wantNotPutIn(t, y, tag, impl.ErrRange)
				wantHas(t, y, tag, false, impl.ErrRange)
			}
		}
	}
}

func TestP11TagsAtBothEnds(t *testing.T) {
	for _, x := range emptyBlooms() {
		wantNotPutIn(t, x, -1, impl.ErrRange)
		wantNotPutIn(t, x, x.Prime, impl.ErrRange)
		for _, tag := range []int{0, x.Prime - 1} {
			wantHas(t, wantPutIn(t, x, tag), tag, true, impl.OK)
		}
	}
}

func TestP11JoinedHasWhatEitherHas(t *testing.T) {
	for _, x := range emptyBlooms() {
		tags := someTags(x.Prime)
		half := len(tags) / 2
		first, second := otherAdd(x, tags[:half]...), otherAdd(x, tags[half:]...)
		both := wantMerged(t, first, second)
		for _, tag := range tags {
			wantHas(t, both, tag, true, impl.OK)
		}
		if !sameBloom(both, otherAdd(x, tags...)) || !sameBloom(both, wantMerged(t, second, first)) {
			t.Errorf("joined: %s", bloomTold(both))
		}
	}
}

// TestP11JoinedHasJustTheBitsOfEither joins each of the patterns to each.
func TestP11JoinedHasJustTheBitsOfEither(t *testing.T) {
	for _, x := range emptyBlooms() {
		all := append(patterns(x), x)
		for _, y := range all {
			for _, z := range all {
				both := wantMerged(t, y, z)
				for place, isSet := range both.Bits {
					if isSet != (y.Bits[place] || z.Bits[place]) {
						t.Errorf("BloomMerge of %s and %s: place %d is %v", bloomTold(y), bloomTold(z), place, isSet)
					}
				}
			}
		}
	}
}

func TestP11JoinedToNothingAndToItself(t *testing.T) {
	for _, x := range emptyBlooms() {
		for _, y := range append(patterns(x), x) {
			for _, both := range []impl.Bloom{wantMerged(t, x, y), wantMerged(t, y, x), wantMerged(t, y, y)} {
				if !sameBloom(both, y) {
					t.Errorf("%s joined to nothing or to itself: %s", bloomTold(y), bloomTold(both))
				}
			}
		}
	}
}

// otherShapes are right filters that are like one of prime 13, width 4 and three salts but for one thing.
func otherShapes() (impl.Bloom, []impl.Bloom) {
	salts := []impl.Salt{{A: 2, B: 3}, {A: 0, B: 7}, {A: 9, B: 1}}
	out := []impl.Bloom{
		emptyBloom(11, 4, salts...), emptyBloom(17, 4, salts...), emptyBloom(509, 4, salts...),
		emptyBloom(13, 3, salts...), emptyBloom(13, 5, salts...), emptyBloom(13, 1, salts...), emptyBloom(13, 13, salts...),
		emptyBloom(13, 4, salts[:2]...), emptyBloom(13, 4, salts[1:]...), emptyBloom(13, 4, salts[0], salts[1], salts[2], salts[2]),
		emptyBloom(13, 4, salts[1], salts[0], salts[2]), emptyBloom(13, 4, salts[0], salts[2], salts[1]),
		emptyBloom(13, 12, salts[:1]...), emptyBloom(13, 6, salts[:2]...), emptyBloom(13, 3, append(salts, salts[0])...),
	}
	for part := range salts {
		with := slices.Clone(salts)
		with[part].A++
		out = append(out, emptyBloom(13, 4, with...))
		with = slices.Clone(salts)
		with[part].B++
		out = append(out, emptyBloom(13, 4, with...))
	}
	return emptyBloom(13, 4, salts...), out
}

func TestP11FiltersThatDifferAreNotJoined(t *testing.T) {
	x, others := otherShapes()
	for _, other := range others {
		for _, y := range append(patterns(x), x) {
			for _, z := range append(patterns(other), other) {
				wantNotMerged(t, y, z, impl.ErrForm)
				wantNotMerged(t, z, y, impl.ErrForm)
			}
		}
		wantMerged(t, other, other)
	}
}

// TestP11WrongFiltersAreNotJoined has ErrBad ahead of what differs.
func TestP11WrongFiltersAreNotJoined(t *testing.T) {
	x, others := otherShapes()
	for _, wrong := range fewWrongBlooms() {
		for _, right := range append(others, x, emptyBloom(11, 4, impl.Salt{A: 2, B: 3}, impl.Salt{A: 0, B: 7})) {
			wantNotMerged(t, wrong, right, impl.ErrBad)
			wantNotMerged(t, right, wrong, impl.ErrBad)
		}
		wantNotMerged(t, wrong, wrong, impl.ErrBad)
	}
	for _, wrong := range wrongBlooms() {
		wantNotMerged(t, wrong, x, impl.ErrBad)
		wantNotMerged(t, x, wrong, impl.ErrBad)
		wantNotMerged(t, wrong, wrong, impl.ErrBad)
	}
}
