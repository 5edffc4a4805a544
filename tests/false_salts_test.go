package tests

import (
	"math"
	"slices"
	"testing"

	"loop.example/g00254/impl"
)

// countedByPlaces asks BloomPlace for the bits of all tags, salt by salt.
func countedByPlaces(t *testing.T, prime, width int, tags []int, other int) int {
	t.Helper()
	count := 0
	for a := range prime {
		for b := range prime {
			x := emptyBloom(prime, width, impl.Salt{A: a, B: b})
			at := placeOf(t, x, other)
			if slices.ContainsFunc(tags, func(tag int) bool { return placeOf(t, x, tag) == at }) {
				count++
			}
		}
	}
	return count
}

func placeOf(t *testing.T, x impl.Bloom, tag int) int {
	t.Helper()
	place, code := impl.BloomPlace(x, 0, tag)
	if code != impl.OK {
		t.Fatalf("BloomPlace of %s; tag %d: code %d", bloomTold(x), tag, code)
	}
	return place
}

func countedPrimes() []int { return primesUpTo(61) }

// tagLists are lists of at most eight tags without the other one, some of them more than once.
func tagLists(prime, other int) [][]int {
	var all []int
	for tag := range prime {
		if tag != other {
			all = append(all, tag)
		}
	}
	few := all[:min(len(all), 8)]
	last := all[max(len(all)-8, 0):]
	return [][]int{nil, all[:1], all[len(all)-1:], few, last, slices.Repeat(all[:1], 8), append(slices.Clone(few[:min(len(few), 4)]), few[:min(len(few), 4)]...)}
}

func otherTags(prime int) []int {
	return slices.Compact([]int{0, prime / 2, prime - 1})
}

func TestP11FalseSaltsCountedOneByOne(t *testing.T) {
	for _, prime := range countedPrimes() {
		widths := edgeWidths(prime)
		for _, width := range slices.Compact([]int{1, widths[1], prime - 1, prime}) {
			for _, other := range otherTags(prime) {
				for _, tags := range tagLists(prime, other) {
					wantFalse(t, prime, width, tags, other, countedByPlaces(t, prime, width, tags, other), impl.OK)
				}
			}
		}
	}
}

func TestP11FalseSaltsOfAllWidths(t *testing.T) {
	for _, prime := range []int{2, 3, 5, 7, 11, 13, 17} {
		for width := 1; width <= prime; width++ {
			for other := range prime {
				for _, tags := range tagLists(prime, other) {
					wantFalse(t, prime, width, tags, other, countedByPlaces(t, prime, width, tags, other), impl.OK)
				}
			}
		}
	}
}

// TestP11FalseSaltsAreFew: 2 n of the width of all salts, n being how many different tags there are.
func TestP11FalseSaltsAreFew(t *testing.T) {
	for _, prime := range countedPrimes() {
		for width := 1; width <= prime; width++ {
			for _, other := range otherTags(prime) {
				for _, tags := range tagLists(prime, other) {
					count, code := impl.FalseSalts(prime, width, tags, other)
					sorted := slices.Clone(tags)
					slices.Sort(sorted)
					n := len(slices.Compact(sorted))
					if code != impl.OK || count < 0 || count > prime*prime || count*width > 2*n*prime*prime {
						t.Errorf("FalseSalts of %d, %d, %v, %d: %d, code %d", prime, width, tags, other, count, code)
					}
				}
			}
		}
	}
}

// TestP11FalseSaltsOfOneTag: whichever two tags they are, as many salts lead both to one bit.
func TestP11FalseSaltsOfOneTag(t *testing.T) {
	for _, prime := range []int{2, 3, 11, 31} {
		for _, width := range edgeWidths(prime) {
			want := sameBitPairs(prime, width)
			for other := range prime {
				for tag := range prime {
					if tag != other {
						wantFalse(t, prime, width, []int{tag}, other, want, impl.OK)
					}
				}
			}
		}
	}
}

// sameBitPairs counts pairs of numbers below the prime: a salt for each of them leads two tags to just these numbers.
func sameBitPairs(prime, width int) int {
	count := 0
	for u := range prime {
		for v := range prime {
			if u%width == v%width {
				count++
			}
		}
	}
	return count
}

func TestP11FalseSaltVectors(t *testing.T) {
	for _, x := range []struct {
		prime, width int
		tags         []int
		other, count int
	}{
		{2, 1, []int{0}, 1, 4}, {2, 2, []int{0}, 1, 2}, {2, 2, []int{1, 1}, 0, 2}, {2, 2, nil, 0, 0},
		{3, 3, []int{1}, 2, 3}, {3, 2, []int{1}, 2, 5}, {3, 1, []int{0}, 2, 9}, {3, 3, []int{0, 1}, 2, 3},
		{5, 5, []int{0, 1, 2, 3}, 4, 5}, {5, 1, []int{4}, 0, 25}, {5, 2, []int{1}, 2, 13}, {5, 4, []int{1}, 2, 7},
		{61, 61, []int{0}, 60, 61}, {61, 1, []int{60}, 0, 3721}, {61, 60, []int{1}, 59, 63}, {61, 61, []int{0, 1, 2, 3, 4, 5, 6, 7}, 8, 61},
	} {
		wantFalse(t, x.prime, x.width, x.tags, x.other, x.count, impl.OK)
	}
}

func TestP11FalseSaltsOfNoTags(t *testing.T) {
	for _, prime := range countedPrimes() {
		for width := 1; width <= prime; width++ {
			wantFalse(t, prime, width, nil, prime-1, 0, impl.OK)
			wantFalse(t, prime, width, []int{}, 0, 0, impl.OK)
		}
	}
}

func TestP11FalseSaltsOfTagsThatComeTwice(t *testing.T) {
	for _, prime := range []int{3, 5, 13, 61} {
		for _, width := range edgeWidths(prime) {
			once, _ := impl.FalseSalts(prime, width, []int{0, 2}, 1)
			for _, tags := range [][]int{{2, 0}, {0, 0, 2}, {0, 2, 0, 2}, {2, 2, 2, 2, 2, 2, 2, 0}} {
				wantFalse(t, prime, width, tags, 1, once, impl.OK)
			}
		}
	}
}

func TestP11FalseSaltsOutOfBounds(t *testing.T) {
	wantFalse(t, 61, 2, nil, 0, 0, impl.OK)
	for _, prime := range append(farNumbers(), -61, -1, 0, 1, 4, 9, 15, 49, 57, 60, 62, 63, 67, 71, 509, 521) {
		for _, width := range []int{0, 1, 2} {
			for _, other := range []int{0, 1, -1} {
				wantFalse(t, prime, width, []int{0}, other, 0, impl.ErrRange)
			}
		}
	}
	for _, prime := range countedPrimes() {
		for _, width := range append(farNumbers(), -1, 0, prime+1, 64, 65) {
			wantFalse(t, prime, width, []int{0}, 1, 0, impl.ErrRange)
			wantFalse(t, prime, width, []int{1}, 1, 0, impl.ErrRange)
		}
		for _, other := range wrongTags(prime) {
			wantFalse(t, prime, 1, nil, other, 0, impl.ErrRange)
			wantFalse(t, prime, prime, []int{other}, other, 0, impl.ErrRange)
		}
	}
}

func TestP11FalseSaltsOfTooManyTags(t *testing.T) {
	for _, count := range []int{7, 8} {
		wantFalse(t, 13, 13, slices.Repeat([]int{4}, count), 5, 13, impl.OK)
		wantFalse(t, 13, 13, slices.Repeat([]int{5}, count), 5, 0, impl.ErrTwice)
	}
	for _, count := range []int{9, 10, impl.MaxList} {
		for _, tag := range []int{4, 5, -1, 13} {
			wantFalse(t, 13, 13, slices.Repeat([]int{tag}, count), 5, 0, impl.ErrRange)
		}
	}
}

// TestP11FalseSaltsTagByTag: whichever of a wrong tag and the other one stands first gives the code.
func TestP11FalseSaltsTagByTag(t *testing.T) {
	for _, prime := range countedPrimes() {
		other := prime / 2
		right := (other + 1) % prime
		for _, wrong := range wrongTags(prime) {
			for _, ahead := range [][]int{nil, {right}, {right, right}, slices.Repeat([]int{right}, 6)} {
				wantFalse(t, prime, 1, append(slices.Clone(ahead), wrong, other), other, 0, impl.ErrRange)
				wantFalse(t, prime, 1, append(slices.Clone(ahead), other, wrong), other, 0, impl.ErrTwice)
				wantFalse(t, prime, prime, append(slices.Clone(ahead), wrong), other, 0, impl.ErrRange)
				wantFalse(t, prime, prime, append(slices.Clone(ahead), other), other, 0, impl.ErrTwice)
				wantFalse(t, prime, prime, append(slices.Clone(ahead), other, right), other, 0, impl.ErrTwice)
			}
		}
	}
}

// TestP11FalseSaltsBoundsAheadOfTags: what is said of the other arguments comes ahead of ErrTwice.
func TestP11FalseSaltsBoundsAheadOfTags(t *testing.T) {
	for _, x := range []struct{ prime, width, other int }{
		{67, 2, 2}, {4, 2, 2}, {521, 2, 2}, {5, 0, 2}, {5, 6, 2}, {5, 2, -1}, {5, 2, 5}, {math.MaxInt, 1, 2}, {5, math.MinInt, 2}, {5, 5, math.MaxInt},
	} {
		wantFalse(t, x.prime, x.width, []int{x.other}, x.other, 0, impl.ErrRange)
		wantFalse(t, x.prime, x.width, []int{x.other, -1}, x.other, 0, impl.ErrRange)
	}
	wantFalse(t, 5, 2, []int{2}, 2, 0, impl.ErrTwice)
}
