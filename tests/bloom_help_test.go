package tests

import (
	"fmt"
	"math"
	"slices"
	"testing"

	"loop.example/g00254/impl"
)

// isPrime tries all divisors one by one.
func isPrime(n int) bool {
	for divisor := 2; divisor < n; divisor++ {
		if n%divisor == 0 {
			return false
		}
	}
	return n >= 2
}

func primesUpTo(last int) []int {
	var out []int
	for n := 2; n <= last; n++ {
		if isPrime(n) {
			out = append(out, n)
		}
	}
	return out
}

func isTag(tag, prime int) bool { return within(tag, prime-1) }

func rightSalts(prime int, salts []impl.Salt) bool {
	for _, s := range salts {
		if !isTag(s.A, prime) || !isTag(s.B, prime) {
			return false
		}
	}
	return len(salts) >= 1 && len(salts) <= 4
}

func rightSizes(prime, width int) bool {
	return prime <= 509 && isPrime(prime) && width >= 1 && width <= prime && width <= 64
}

func rightBloom(x impl.Bloom) bool {
	return rightSizes(x.Prime, x.Width) && rightSalts(x.Prime, x.Salts) && len(x.Bits) == x.Width*len(x.Salts)
}

// otherBit adds A once for each of the tag, and takes Prime and then Width away one by one.
func otherBit(x impl.Bloom, part, tag int) int {
	at := x.Salts[part].B
	for range tag {
		at += x.Salts[part].A
		if at >= x.Prime {
			at -= x.Prime
		}
	}
	for at >= x.Width {
		at -= x.Width
	}
	return at
}

func otherPlaces(x impl.Bloom, tag int) []int {
	var out []int
	for part := range x.Salts {
		out = append(out, part*x.Width+otherBit(x, part, tag))
	}
	return out
}

func otherAdd(x impl.Bloom, tags ...int) impl.Bloom {
	out := copyOf(x)
	for _, tag := range tags {
		for _, place := range otherPlaces(x, tag) {
			out.Bits[place] = true
		}
	}
	return out
}

func otherHas(x impl.Bloom, tag int) bool {
	return !slices.ContainsFunc(otherPlaces(x, tag), func(place int) bool { return !x.Bits[place] })
}

func otherMerge(x, y impl.Bloom) impl.Bloom {
	out := copyOf(x)
	for place, set := range y.Bits {
		out.Bits[place] = out.Bits[place] || set
	}
	return out
}

func copyOf(x impl.Bloom) impl.Bloom {
	x.Salts, x.Bits = slices.Clone(x.Salts), slices.Clone(x.Bits)
	return x
}

func sameBloom(x, y impl.Bloom) bool {
	return x.Prime == y.Prime && x.Width == y.Width && slices.Equal(x.Salts, y.Salts) && slices.Equal(x.Bits, y.Bits)
}

// bloomTold is the empty text of a filter that is zero, as it comes beside a code.
func bloomTold(x impl.Bloom) string {
	if sameBloom(x, impl.Bloom{}) {
		return ""
	}
	return fmt.Sprintf("prime %d, width %d, salts %.200s, bits %.2000s", x.Prime, x.Width, fmt.Sprint(x.Salts), fmt.Sprint(x.Bits))
}

// emptyBloom is made without the program.
func emptyBloom(prime, width int, salts ...impl.Salt) impl.Bloom {
	return impl.Bloom{Prime: prime, Width: width, Salts: salts, Bits: make([]bool, width*len(salts))}
}

// someSalts are salts with numbers at both ends and between them.
func someSalts(prime, count int) []impl.Salt {
	middle := prime / 2
	return []impl.Salt{{A: prime - 1, B: prime - 1}, {A: 1, B: 0}, {A: middle, B: prime / 3}, {A: 0, B: middle}}[:count]
}

func otherSalts(prime, count int) []impl.Salt {
	return []impl.Salt{{A: 7 % prime, B: 5 % prime}, {A: prime * 2 / 3, B: prime - 1}, {A: 1, B: 1}, {A: prime - 1, B: 0}}[:count]
}

// edgeWidths are right widths of a prime, at both ends and between them.
func edgeWidths(prime int) []int {
	out := []int{1, 2, 3, 4, 7, 8, 31, 32, 33, prime / 2, prime - 1, prime, 63, 64}
	slices.Sort(out)
	return slices.DeleteFunc(slices.Compact(out), func(width int) bool { return !rightSizes(prime, width) })
}

func fewPrimes() []int { return []int{2, 3, 5, 11, 31, 61, 67, 131, 509} }

// emptyBlooms are right filters of few primes and their widths, of one to four parts.
func emptyBlooms() []impl.Bloom {
	var out []impl.Bloom
	for _, prime := range fewPrimes() {
		for _, width := range edgeWidths(prime) {
			for count := 1; count <= 4; count++ {
				out = append(out, emptyBloom(prime, width, someSalts(prime, count)...), emptyBloom(prime, width, otherSalts(prime, count)...))
			}
		}
	}
	return out
}

// patterns are filters like x with bits that no tags need have set.
func patterns(x impl.Bloom) []impl.Bloom {
	var out []impl.Bloom
	for _, isSet := range []func(place int) bool{
		func(place int) bool { return true },
		func(place int) bool { return place%2 == 0 },
		func(place int) bool { return place%3 != 1 },
		func(place int) bool { return place != len(x.Bits)-1 },
		func(place int) bool { return place != 0 },
		func(place int) bool { return place%x.Width == x.Width-1 },
		func(place int) bool { return place >= x.Width },
	} {
		y := copyOf(x)
		for place := range y.Bits {
			y.Bits[place] = isSet(place)
		}
		out = append(out, y)
	}
	return out
}

func someTags(prime int) []int {
	out := []int{0, 1, 2, prime / 3, prime / 2, prime * 3 / 4, prime - 2, prime - 1}
	slices.Sort(out)
	return slices.DeleteFunc(slices.Compact(out), func(tag int) bool { return !isTag(tag, prime) })
}

func wrongTags(prime int) []int {
	return append(farNumbers(), -1, -prime, prime, prime+1, 2*prime, math.MinInt+1, math.MaxInt-1, math.MaxInt/2)
}

func newBloom(t *testing.T, prime, width int, salts []impl.Salt) impl.Bloom {
	t.Helper()
	x, code := impl.NewBloom(prime, width, salts)
	if code != impl.OK {
		t.Fatalf("NewBloom of %d, %d, %v: code %d", prime, width, salts, code)
	}
	return x
}

func wantNew(t *testing.T, prime, width int, salts []impl.Salt, code int) {
	t.Helper()
	want := impl.Bloom{}
	if code == impl.OK {
		want = emptyBloom(prime, width, salts...)
	}
	if x, got := impl.NewBloom(prime, width, salts); got != code || !sameBloom(x, want) {
		t.Errorf("NewBloom of %d, %d, %d salts %s: %s, code %d; want code %d", prime, width, len(salts), told(salts), bloomTold(x), got, code)
	}
}

func wantPlace(t *testing.T, x impl.Bloom, part, tag, want, wanted int) {
	t.Helper()
	if got, code := impl.BloomPlace(x, part, tag); got != want || code != wanted {
		t.Errorf("BloomPlace of %s; part %d, tag %d: %d, code %d; want %d, code %d", bloomTold(x), part, tag, got, code, want, wanted)
	}
}

func wantPutIn(t *testing.T, x impl.Bloom, tag int) impl.Bloom {
	t.Helper()
	y, code := impl.BloomAdd(x, tag)
	if want := otherAdd(x, tag); code != impl.OK || !sameBloom(y, want) {
		t.Fatalf("BloomAdd of %s; tag %d: %s, code %d; want %s", bloomTold(x), tag, bloomTold(y), code, bloomTold(want))
	}
	return y
}

func wantNotPutIn(t *testing.T, x impl.Bloom, tag, want int) {
	t.Helper()
	if y, code := impl.BloomAdd(x, tag); code != want || bloomTold(y) != "" {
		t.Errorf("BloomAdd of %s; tag %d: %s, code %d; want nothing, code %d", bloomTold(x), tag, bloomTold(y), code, want)
	}
}

func wantHas(t *testing.T, x impl.Bloom, tag int, want bool, wanted int) {
	t.Helper()
	if has, code := impl.BloomHas(x, tag); has != want || code != wanted {
		t.Errorf("BloomHas of %s; tag %d: %v, code %d; want %v, code %d", bloomTold(x), tag, has, code, want, wanted)
	}
}

func wantMerged(t *testing.T, x, y impl.Bloom) impl.Bloom {
	t.Helper()
	both, code := impl.BloomMerge(x, y)
	if want := otherMerge(x, y); code != impl.OK || !sameBloom(both, want) {
		t.Fatalf("BloomMerge of %s and %s: %s, code %d", bloomTold(x), bloomTold(y), bloomTold(both), code)
	}
	return both
}

func wantNotMerged(t *testing.T, x, y impl.Bloom, want int) {
	t.Helper()
	if both, code := impl.BloomMerge(x, y); code != want || bloomTold(both) != "" {
		t.Errorf("BloomMerge of %s and %s: %s, code %d; want nothing, code %d", bloomTold(x), bloomTold(y), bloomTold(both), code, want)
	}
}

func wantFalse(t *testing.T, prime, width int, tags []int, other, want, wanted int) {
	t.Helper()
	if got, code := impl.FalseSalts(prime, width, tags, other); got != want || code != wanted {
		t.Errorf("FalseSalts of %d, %d, %s, %d: %d, code %d; want %d, code %d", prime, width, told(tags), other, got, code, want, wanted)
	}
}
