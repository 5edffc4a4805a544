package tests

import (
	"math"
	"slices"
	"testing"

	"loop.example/g00254/impl"
)

func TestP11PrimesOneByOne(t *testing.T) {
	for n := -10; n <= 600; n++ {
		if want := isPrime(n) && n <= 509; impl.PrimeOK(n) != want {
			t.Errorf("PrimeOK of %d: want %v", n, want)
		}
	}
}

func TestP11PrimeVectors(t *testing.T) {
	for _, n := range []int{2, 3, 5, 7, 11, 13, 17, 19, 23, 61, 67, 499, 503, 509} {
		if !impl.PrimeOK(n) {
			t.Errorf("PrimeOK of %d: it is one", n)
		}
	}
	for _, n := range []int{-509, -7, -3, -2, -1, 0, 1, 4, 6, 9, 15, 25, 49, 91, 121, 169, 289, 361, 484, 504, 507, 510, 511, 529, 512, 521, 523, 541} {
		if impl.PrimeOK(n) {
			t.Errorf("PrimeOK of %d: it is none, or beyond the greatest", n)
		}
	}
}

// TestP11PrimesBeyondTheGreatest has primes among them, and numbers whose squares wrap.
func TestP11PrimesBeyondTheGreatest(t *testing.T) {
	for _, n := range append(farNumbers(), 1009, 65537, 253009, 1<<31-1, 1<<61-1, math.MaxInt, math.MaxInt-1, math.MinInt+1, 3037000499, 3037000500) {
		if impl.PrimeOK(n) {
			t.Errorf("PrimeOK of %d: it is beyond the greatest", n)
		}
	}
}

func TestP11NewFilters(t *testing.T) {
	for _, prime := range primesUpTo(509) {
		for _, width := range edgeWidths(prime) {
			for count := 1; count <= 4; count++ {
				for _, salts := range [][]impl.Salt{someSalts(prime, count), otherSalts(prime, count), make([]impl.Salt, count)} {
					wantNew(t, prime, width, salts, impl.OK)
					x := newBloom(t, prime, width, salts)
					if len(x.Bits) != width*count || slices.Contains(x.Bits, true) || !slices.Equal(x.Salts, salts) || !impl.BloomOK(x) {
						t.Errorf("NewBloom of %d, %d, %v: %s", prime, width, salts, bloomTold(x))
					}
				}
			}
		}
	}
}

func TestP11NewFiltersOfAllWidths(t *testing.T) {
	for _, prime := range primesUpTo(509) {
		for width := -2; width <= prime+3; width++ {
			want := impl.ErrRange
			if width >= 1 && width <= prime && width <= 64 {
				want = impl.OK
			}
			wantNew(t, prime, width, []impl.Salt{{A: 1, B: 0}}, want)
		}
	}
}

func TestP11NewFiltersOfOtherNumbersThanPrimes(t *testing.T) {
	for n := -10; n <= 600; n++ {
		want := impl.ErrRange
		if isPrime(n) && n <= 509 {
			want = impl.OK
		}
		wantNew(t, n, 1, []impl.Salt{{}}, want)
	}
	for _, n := range append(farNumbers(), 521, 1<<31-1, 1<<61-1) {
		for _, width := range []int{0, 1, 64, n} {
			wantNew(t, n, width, []impl.Salt{{A: 1, B: 1}}, impl.ErrRange)
		}
	}
}

func TestP11NewFiltersOfWidthsOutOfBounds(t *testing.T) {
	for _, prime := range fewPrimes() {
		for _, width := range append(farNumbers(), -1, 0, prime+1, 65, prime*64) {
			if !rightSizes(prime, width) {
				wantNew(t, prime, width, someSalts(prime, 2), impl.ErrRange)
			}
		}
	}
	for _, width := range []int{1, 10, 11} {
		wantNew(t, 11, width, someSalts(11, 2), impl.OK)
	}
	for _, width := range []int{0, 12} {
		wantNew(t, 11, width, someSalts(11, 2), impl.ErrRange)
	}
	wantNew(t, 61, 61, someSalts(61, 4), impl.OK)
	wantNew(t, 61, 62, someSalts(61, 4), impl.ErrRange)
	wantNew(t, 67, 64, someSalts(67, 4), impl.OK)
	wantNew(t, 67, 65, someSalts(67, 4), impl.ErrRange)
	wantNew(t, 509, 64, someSalts(509, 4), impl.OK)
	wantNew(t, 509, 65, someSalts(509, 4), impl.ErrRange)
}

func TestP11NewFiltersOfSaltsThatAreNoneOrTooMany(t *testing.T) {
	for count := 0; count <= 6; count++ {
		want := impl.OK
		if count < 1 || count > 4 {
			want = impl.ErrRange
		}
		wantNew(t, 11, 4, make([]impl.Salt, count), want)
		wantNew(t, 509, 64, slices.Repeat([]impl.Salt{{A: 508, B: 508}}, count), want)
	}
	wantNew(t, 11, 4, make([]impl.Salt, impl.MaxList), impl.ErrRange)
	wantNew(t, 11, 4, make([]impl.Salt, impl.MaxList+1), impl.ErrLong)
}

// TestP11NewFiltersOfSaltsAtBothEnds puts each number into each half of each salt.
func TestP11NewFiltersOfSaltsAtBothEnds(t *testing.T) {
	for _, prime := range fewPrimes() {
		for _, n := range append(wrongTags(prime), 0, 1, prime-1) {
			want := impl.ErrRange
			if isTag(n, prime) {
				want = impl.OK
			}
			for count := 1; count <= 4; count++ {
				for part := range count {
					with := someSalts(prime, count)
					with[part].A = n
					wantNew(t, prime, 2, with, want)
					with = someSalts(prime, count)
					with[part].B = n
					wantNew(t, prime, 2, with, want)
				}
			}
		}
	}
}

// edgeBlooms have each of their four parts at an end, beside it and far beyond it, right ones and wrong ones.
func edgeBlooms() []impl.Bloom {
	far := []int{math.MinInt, math.MaxInt, 1 << 62}
	var out []impl.Bloom
	for _, prime := range append(far, -11, -1, 0, 1, 2, 3, 4, 10, 11, 12, 13, 61, 67, 121, 509, 510, 521) {
		for _, width := range append(far, -1, 0, 1, 2, 3, 4, 11, 12, 61, 62, 64, 65, 509) {
			for _, salts := range [][]impl.Salt{
				nil, {{}}, {{A: 1, B: 1}}, {{A: 2, B: 3}, {A: 0, B: 7}}, {{A: 10, B: 10}, {}, {A: 508, B: 508}, {A: 1}}, make([]impl.Salt, 4), make([]impl.Salt, 5),
				{{A: -1}}, {{B: -1}}, {{A: 11}}, {{B: 11}}, {{}, {A: math.MaxInt}}, {{}, {B: math.MinInt}}, {{A: 509}}, {{B: 509}},
			} {
				for _, count := range bitCounts(width, len(salts)) {
					out = append(out, impl.Bloom{Prime: prime, Width: width, Salts: salts, Bits: make([]bool, count)})
				}
			}
		}
	}
	return out
}

// bitCounts are the right number of bits and its neighbours, where there may be so many.
func bitCounts(width, parts int) []int {
	out := []int{0, 1, 64, 255, 256, 257}
	if within(width, 600) {
		right := width * parts
		out = append(out, max(right-1, 0), right, right+1, width, width*(parts+1))
	}
	slices.Sort(out)
	return slices.Compact(out)
}

func wrongBlooms() []impl.Bloom { return slices.DeleteFunc(edgeBlooms(), rightBloom) }

// fewWrongBlooms are wrong in one way each.
func fewWrongBlooms() []impl.Bloom {
	right := emptyBloom(11, 4, impl.Salt{A: 2, B: 3}, impl.Salt{A: 0, B: 7})
	var out []impl.Bloom
	for _, change := range []func(x *impl.Bloom){
		func(x *impl.Bloom) { x.Prime = 0 },
		func(x *impl.Bloom) { x.Prime = 10 },
		func(x *impl.Bloom) { x.Prime = 7 },
		func(x *impl.Bloom) { x.Prime = 521 },
		func(x *impl.Bloom) { x.Prime = math.MinInt },
		func(x *impl.Bloom) { x.Width = 0 },
		func(x *impl.Bloom) { x.Width = 3 },
		func(x *impl.Bloom) { x.Width = 5 },
		func(x *impl.Bloom) { x.Width, x.Bits = 12, make([]bool, 24) },
		func(x *impl.Bloom) { x.Width = math.MaxInt },
		func(x *impl.Bloom) { x.Width, x.Salts, x.Bits = 1<<62, make([]impl.Salt, 4), nil },
		func(x *impl.Bloom) { x.Salts = nil },
		func(x *impl.Bloom) { x.Salts, x.Bits = nil, nil },
		func(x *impl.Bloom) { x.Salts = x.Salts[:1] },
		func(x *impl.Bloom) { x.Salts, x.Bits = make([]impl.Salt, 5), make([]bool, 20) },
		func(x *impl.Bloom) { x.Salts, x.Bits = make([]impl.Salt, 5000), make([]bool, 20000) },
		func(x *impl.Bloom) { x.Salts[0].A = -1 },
		func(x *impl.Bloom) { x.Salts[1].A = 11 },
		func(x *impl.Bloom) { x.Salts[0].B = 11 },
		func(x *impl.Bloom) { x.Salts[1].B = -1 },
		func(x *impl.Bloom) { x.Salts[1].B = math.MaxInt },
		func(x *impl.Bloom) { x.Bits = nil },
		func(x *impl.Bloom) { x.Bits = x.Bits[:7] },
		func(x *impl.Bloom) { x.Bits = append(x.Bits, true) },
		func(x *impl.Bloom) { x.Bits = make([]bool, 16) },
	} {
		x := copyOf(right)
		change(&x)
		out = append(out, x)
	}
	return append(out, impl.Bloom{})
}

func TestP11RightFilters(t *testing.T) {
	for _, x := range emptyBlooms() {
		for _, y := range append(patterns(x), x) {
			if !impl.BloomOK(y) {
				t.Error("BloomOK of", bloomTold(y))
			}
		}
	}
}

func TestP11FiltersWithOnePartWrong(t *testing.T) {
	for _, x := range fewWrongBlooms() {
		if impl.BloomOK(x) {
			t.Error("BloomOK of", bloomTold(x))
		}
	}
	for _, x := range emptyBlooms() {
		for _, change := range []func(x *impl.Bloom){
			func(x *impl.Bloom) { x.Prime = x.Prime * x.Prime },
			func(x *impl.Bloom) { x.Prime = -x.Prime },
			func(x *impl.Bloom) { x.Width++ },
			func(x *impl.Bloom) { x.Width-- },
			func(x *impl.Bloom) { x.Salts = nil },
			func(x *impl.Bloom) { x.Salts = append(x.Salts, impl.Salt{}) },
			func(x *impl.Bloom) { x.Salts[0].A = x.Prime },
			func(x *impl.Bloom) { x.Salts[len(x.Salts)-1].B = x.Prime },
			func(x *impl.Bloom) { x.Salts[len(x.Salts)-1].A = -1 },
			func(x *impl.Bloom) { x.Bits = nil },
			func(x *impl.Bloom) { x.Bits = x.Bits[1:] },
			func(x *impl.Bloom) { x.Bits = append(x.Bits, false) },
		} {
			y := copyOf(x)
			change(&y)
			if impl.BloomOK(y) {
				t.Error("BloomOK of", bloomTold(y))
			}
		}
	}
}

func TestP11FiltersAtEveryEdge(t *testing.T) {
	for _, x := range edgeBlooms() {
		if impl.BloomOK(x) != rightBloom(x) {
			t.Errorf("BloomOK of %s: want %v", bloomTold(x), rightBloom(x))
		}
	}
}

func TestP11EveryPlace(t *testing.T) {
	for _, x := range emptyBlooms() {
		for tag := range x.Prime {
			for part, place := range otherPlaces(x, tag) {
				wantPlace(t, x, part, tag, place, impl.OK)
			}
		}
	}
}

// TestP11PlaceVectors tells Prime and Width apart: which of both is taken first.
func TestP11PlaceVectors(t *testing.T) {
	x := emptyBloom(11, 4, impl.Salt{A: 1, B: 0}, impl.Salt{A: 2, B: 3}, impl.Salt{A: 0, B: 10}, impl.Salt{A: 10, B: 10})
	for _, v := range []struct{ part, tag, place int }{
		{0, 0, 0}, {0, 3, 3}, {0, 4, 0}, {0, 10, 2}, {1, 0, 7}, {1, 4, 4}, {1, 5, 6}, {1, 10, 5},
		{2, 0, 10}, {2, 7, 10}, {3, 0, 14}, {3, 1, 13}, {3, 10, 12}, {3, 9, 13}, {3, 5, 13},
	} {
		wantPlace(t, x, v.part, v.tag, v.place, impl.OK)
	}
	y := emptyBloom(509, 64, impl.Salt{A: 508, B: 508})
	for _, v := range []struct{ tag, place int }{{0, 60}, {1, 59}, {508, 0}, {507, 1}, {60, 0}, {61, 63}} {
		wantPlace(t, y, 0, v.tag, v.place, impl.OK)
	}
}

func TestP11PlaceHangsOnNoBit(t *testing.T) {
	for _, x := range emptyBlooms() {
		for _, y := range patterns(x) {
			for _, tag := range someTags(x.Prime) {
				for part, place := range otherPlaces(x, tag) {
					wantPlace(t, y, part, tag, place, impl.OK)
				}
			}
		}
	}
}

func TestP11PlacesOfTagsAndPartsThatThereAreNot(t *testing.T) {
	for _, x := range emptyBlooms() {
		for part := range x.Salts {
			for _, tag := range wrongTags(x.Prime) {
				wantPlace(t, x, part, tag, 0, impl.ErrRange)
			}
		}
		for _, part := range append(farNumbers(), -1, len(x.Salts), len(x.Salts)+1, len(x.Bits)) {
			if within(part, len(x.Salts)-1) {
				continue
			}
			for _, tag := range []int{0, x.Prime - 1, x.Prime, -1} {
				wantPlace(t, x, part, tag, 0, impl.ErrRange)
			}
		}
	}
}

// TestP11WrongFiltersFirst has ErrBad ahead of tags and parts that there aren't.
func TestP11WrongFiltersFirst(t *testing.T) {
	for _, x := range append(wrongBlooms(), fewWrongBlooms()...) {
		for _, tag := range []int{0, 1, -1, 11, math.MinInt, math.MaxInt} {
			for _, part := range []int{0, 1, -1, 4, math.MaxInt} {
				wantPlace(t, x, part, tag, 0, impl.ErrBad)
			}
			wantNotPutIn(t, x, tag, impl.ErrBad)
			wantHas(t, x, tag, false, impl.ErrBad)
		}
	}
}
