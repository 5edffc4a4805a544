package tests

import (
	"slices"
	"testing"

	"loop.example/g00254/impl"
)

type ratio struct{ a, b int }

func allRatios() []ratio {
	var out []ratio
	for a := 1; a <= 15; a++ {
		for b := a + 1; b <= 16; b++ {
			out = append(out, ratio{a, b})
		}
	}
	return out
}

func (r ratio) right() bool { return slices.Contains(allRatios(), r) }

// edgeRatios have each of both numbers at an end, beside it and far beyond it, right ones and wrong ones.
func edgeRatios() []ratio {
	var out []ratio
	for _, a := range append(farNumbers(), -1, 0, 1, 2, 7, 14, 15, 16, 17) {
		for _, b := range append(farNumbers(), -1, 0, 1, 2, 3, 8, 15, 16, 17) {
			out = append(out, ratio{a, b})
		}
		if a < 1<<62 {
			out = append(out, ratio{a, a}, ratio{a, a + 1})
		}
	}
	return out
}

func wrongRatios() []ratio {
	return slices.DeleteFunc(edgeRatios(), ratio.right)
}

func wrongMeans() []int { return append(farNumbers(), -1, -8, 9, 10, 16, 17) }

// passedOver is a word that leads to no number below b, if there is one.
func passedOver(b int) (int, bool) { return 65535, 65536%b != 0 }

// wordsOfCount lead to a count: each number but the last one is below a, at both ends of what is.
func wordsOfCount(count int, r ratio) []int {
	var out []int
	for i := range count {
		out = append(out, []int{0, r.a - 1, r.b, r.b + r.a - 1}[i%4])
	}
	return append(out, []int{r.a, r.b - 1, 2*r.b - 1}[count%3])
}

func wordsOfCounts(r ratio, counts ...int) []int {
	var out []int
	for _, count := range counts {
		out = append(out, wordsOfCount(count, r)...)
	}
	return out
}

// withPassedOver has ahead of each word one that is passed over.
func withPassedOver(words []int, word int) []int {
	var out []int
	for _, w := range words {
		out = append(out, word, w)
	}
	return out
}

// otherCount draws one by one, by the tests' own way to draw.
func otherCount(words []int, r ratio) (count, taken, code int) {
	for {
		number, used, code := otherUniform(words[taken:], r.b)
		if code != impl.OK {
			return 0, 0, code
		}
		taken += used
		if number >= r.a {
			return count, taken, impl.OK
		}
		count++
	}
}

func wantCount(t *testing.T, words []int, r ratio, count, taken, code int) {
	t.Helper()
	if n, used, got := impl.GeometricOf(words, r.a, r.b); n != count || used != taken || got != code {
		t.Errorf("GeometricOf of %s, %v: %d, %d taken, code %d; want %d, %d, %d", told(words), r, n, used, got, count, taken, code)
	}
}

func wantCountAsOther(t *testing.T, words []int, r ratio) {
	t.Helper()
	count, taken, code := otherCount(words, r)
	wantCount(t, words, r, count, taken, code)
}

func wantNoise(t *testing.T, words []int, mean int, r ratio, noise, taken, code int) {
	t.Helper()
	if n, used, got := impl.NoiseOf(words, mean, r.a, r.b); n != noise || used != taken || got != code {
		t.Errorf("NoiseOf of %s, %d, %v: %d, %d taken, code %d; want %d, %d, %d", told(words), mean, r, n, used, got, noise, taken, code)
	}
}

func wantPair(t *testing.T, words []int, mean int, r ratio, plan impl.NoisePlan, taken, code int) {
	t.Helper()
	if p, used, got := impl.NoisePair(words, mean, r.a, r.b); p != plan || used != taken || got != code {
		t.Errorf("NoisePair of %s, %d, %v: %v, %d taken, code %d; want %v, %d, %d", told(words), mean, r, p, used, got, plan, taken, code)
	}
}

func wantNoNoise(t *testing.T, words []int, mean int, r ratio, code int) {
	t.Helper()
	wantNoise(t, words, mean, r, 0, 0, code)
	wantPair(t, words, mean, r, impl.NoisePlan{}, 0, code)
}

// heldWithin is n, or the end that it is beyond.
func heldWithin(n, mean int) int {
	if n < 0 {
		return 0
	}
	if n > 2*mean {
		return 2 * mean
	}
	return n
}

func TestP10CountVectors(t *testing.T) {
	for _, x := range []struct {
		words              []int
		r                  ratio
		count, taken, code int
	}{
		{[]int{1}, ratio{1, 2}, 0, 1, 0},
		{[]int{65535}, ratio{1, 2}, 0, 1, 0},
		{[]int{0, 1}, ratio{1, 2}, 1, 2, 0},
		{[]int{0, 2, 65534, 7, 0}, ratio{1, 2}, 3, 4, 0},
		{[]int{0, 14, 16, 30, 65534, 65535}, ratio{15, 16}, 5, 6, 0},
		{[]int{16, 32, 65520, 2, 3}, ratio{1, 16}, 3, 4, 0},
		{[]int{65535, 3, 65535, 65535, 2}, ratio{2, 3}, 1, 5, 0},
		{[]int{65534, 1}, ratio{2, 3}, 0, 1, 0},
		{[]int{65535, 65535, 7}, ratio{7, 15}, 0, 3, 0},
		{nil, ratio{1, 2}, 0, 0, impl.ErrMissing},
		{[]int{0, 0, 0}, ratio{1, 2}, 0, 0, impl.ErrMissing},
		{[]int{0, 65535}, ratio{2, 3}, 0, 0, impl.ErrMissing},
	} {
		wantCount(t, x.words, x.r, x.count, x.taken, x.code)
	}
}

func TestP10CountsOfEveryRatio(t *testing.T) {
	for _, r := range allRatios() {
		for _, count := range []int{0, 1, 2, 3, 7, 16, 17, 500, 999, 1998, 1999} {
			words := wordsOfCount(count, r)
			wantCount(t, words, r, count, count+1, impl.OK)
			wantCount(t, append(words, 0, 65535)[:min(count+3, 2000)], r, count, count+1, impl.OK)
			wantCount(t, words[:count], r, 0, 0, impl.ErrMissing)
		}
	}
}

// TestP10PassedOverWordsAreTaken has words that lead to no number ahead of each one that does, and at the end.
func TestP10PassedOverWordsAreTaken(t *testing.T) {
	met := 0
	for _, r := range allRatios() {
		word, is := passedOver(r.b)
		if !is {
			continue
		}
		met++
		for _, count := range []int{0, 1, 2, 9, 998, 999} {
			words := withPassedOver(wordsOfCount(count, r), word)
			wantCount(t, words, r, count, 2*count+2, impl.OK)
			wantCount(t, words[:2*count+1], r, 0, 0, impl.ErrMissing)
			wantCount(t, words[:2*count], r, 0, 0, impl.ErrMissing)
		}
		wantCount(t, slices.Repeat([]int{word}, 2000), r, 0, 0, impl.ErrMissing)
		wantCount(t, append(slices.Repeat([]int{word}, 1999), r.a), r, 0, 2000, impl.OK)
	}
	if met == 0 {
		t.Error("no ratio passes over a word")
	}
}

// TestP10CountsOfShortLists takes every list of up to four words at the edges of what counts and of what is passed over.
func TestP10CountsOfShortLists(t *testing.T) {
	for _, r := range allRatios() {
		greatest := 65536 / r.b * r.b
		edges := []int{0, r.a - 1, r.a, r.b - 1, greatest - 1, greatest - r.b, min(greatest, 65535), 65535}
		slices.Sort(edges)
		edges = slices.Compact(edges)
		lists := [][]int{nil}
		for i := 0; i < len(lists); i++ {
			wantCountAsOther(t, lists[i], r)
			if len(lists[i]) == 4 {
				continue
			}
			for _, word := range edges {
				lists = append(lists, append(slices.Clone(lists[i]), word))
			}
		}
	}
}

// TestP10CountsByTheProgramsOwnDraws takes counts one behind the other until words run out.
func TestP10CountsByTheProgramsOwnDraws(t *testing.T) {
	for _, r := range allRatios() {
		words, _ := impl.Words(shareOf(r.a*16+r.b), 300)
		for left := words; ; {
			count, taken, wanted := 0, 0, impl.OK
			for {
				number, used, code := impl.UniformOf(left[taken:], r.b)
				if code != impl.OK {
					count, taken, wanted = 0, 0, code
					break
				}
				taken += used
				if number >= r.a {
					break
				}
				count++
			}
			wantCount(t, left, r, count, taken, wanted)
			if wanted != impl.OK {
				break
			}
			left = left[taken:]
		}
	}
}

// TestP10CountsHangOnTakenWordsAlone: those behind them have no part in it, and one fewer is too few.
func TestP10CountsHangOnTakenWordsAlone(t *testing.T) {
	for _, r := range allRatios() {
		for _, seed := range someSeeds() {
			words := otherWords(seed, 2000)
			count, taken, code := otherCount(words, r)
			wantCount(t, words, r, count, taken, code)
			wantCount(t, words[:taken], r, count, taken, code)
			wantCount(t, words[:taken-1], r, 0, 0, impl.ErrMissing)
		}
	}
}

func TestP10CountsOfWrongRatios(t *testing.T) {
	for _, r := range wrongRatios() {
		for _, words := range [][]int{nil, {0}, {65535}, otherWords(someKey(), 2000), slices.Repeat([]int{65535}, 2000)} {
			wantCount(t, words, r, 0, 0, impl.ErrRange)
		}
	}
}

func TestP10EdgesOfRatios(t *testing.T) {
	for _, x := range []struct{ a, b, code int }{
		{0, 1, impl.ErrRange}, {0, 16, impl.ErrRange}, {1, 1, impl.ErrRange}, {1, 2, 0}, {1, 16, 0}, {1, 17, impl.ErrRange},
		{15, 15, impl.ErrRange}, {15, 16, 0}, {15, 17, impl.ErrRange}, {16, 16, impl.ErrRange}, {16, 17, impl.ErrRange}, {16, 15, impl.ErrRange}, {3, 2, impl.ErrRange},
	} {
		taken := 0
		if x.code == impl.OK {
			taken = 1
		}
		wantCount(t, []int{max(x.b-1, 0)}, ratio{x.a, x.b}, 0, taken, x.code)
	}
}

func TestP10CountsOfWrongWords(t *testing.T) {
	for _, words := range wrongWordLists() {
		for _, r := range edgeRatios() {
			wantCount(t, words, r, 0, 0, impl.ErrBad)
		}
	}
}

// TestP10NoiseOfEveryCounts has the mean, both ends, and counts that lead beyond either of them.
func TestP10NoiseOfEveryCounts(t *testing.T) {
	for _, r := range allRatios() {
		for mean := 0; mean <= 8; mean++ {
			for first := range 19 {
				for second := range 19 {
					words := wordsOfCounts(r, first, second)
					wantNoise(t, words, mean, r, heldWithin(mean+first-second, mean), first+second+2, impl.OK)
				}
			}
		}
	}
}

func TestP10NoiseFarBeyondItsEnds(t *testing.T) {
	for _, r := range allRatios() {
		for mean := 0; mean <= 8; mean++ {
			wantNoise(t, wordsOfCounts(r, 1998, 0), mean, r, 2*mean, 2000, impl.OK)
			wantNoise(t, wordsOfCounts(r, 0, 1998), mean, r, 0, 2000, impl.OK)
			wantNoise(t, wordsOfCounts(r, 999, 999), mean, r, mean, 2000, impl.OK)
			wantNoise(t, wordsOfCounts(r, 2*mean, mean), mean, r, 2*mean, 3*mean+2, impl.OK)
			wantNoise(t, wordsOfCounts(r, mean, 2*mean), mean, r, 0, 3*mean+2, impl.OK)
		}
	}
}

// TestP10NoiseByTheProgramsOwnCounts: the second count begins where the first one left the words.
func TestP10NoiseByTheProgramsOwnCounts(t *testing.T) {
	for _, r := range allRatios() {
		words := otherWords(shareOf(r.a+r.b), 300)
		for mean := 0; mean <= 8; mean++ {
			for begin := range 40 {
				left := words[begin*7:]
				first, taken, code := impl.GeometricOf(left, r.a, r.b)
				second, more, secondCode := impl.GeometricOf(left[taken:], r.a, r.b)
				if code != impl.OK || secondCode != impl.OK {
					wantNoise(t, left, mean, r, 0, 0, impl.ErrMissing)
					continue
				}
				wantNoise(t, left, mean, r, heldWithin(mean+first-second, mean), taken+more, impl.OK)
			}
		}
	}
}

// TestP10NoiseLiesWithinItsEnds goes through many words, of each mean and ratio.
func TestP10NoiseLiesWithinItsEnds(t *testing.T) {
	for _, r := range allRatios() {
		for mean := 0; mean <= 8; mean++ {
			for left := otherWords(shareOf(mean), 400); ; {
				noise, taken, code := impl.NoiseOf(left, mean, r.a, r.b)
				if code == impl.ErrMissing {
					break
				}
				if code != impl.OK || !within(noise, 2*mean) || taken < 2 || taken > len(left) {
					t.Fatalf("NoiseOf of %s, %d, %v: %d, %d taken, code %d", told(left), mean, r, noise, taken, code)
				}
				left = left[taken:]
			}
		}
	}
}

// TestP10NoiseWhereWordsRunOut cuts the words off at every place, in the first count and in the second one.
func TestP10NoiseWhereWordsRunOut(t *testing.T) {
	for _, r := range allRatios() {
		words := wordsOfCounts(r, 3, 2)
		if word, is := passedOver(r.b); is {
			words = withPassedOver(words, word)
		}
		for n := range words {
			for _, mean := range []int{0, 1, 8} {
				wantNoise(t, words[:n], mean, r, 0, 0, impl.ErrMissing)
			}
		}
		wantNoise(t, words, 4, r, 5, len(words), impl.OK)
		wantNoise(t, append(words, 0, r.a, 65535), 4, r, 5, len(words), impl.OK)
	}
}

func TestP10NoiseOfWrongMeans(t *testing.T) {
	for _, r := range []ratio{{1, 2}, {3, 5}, {1, 16}, {15, 16}} {
		for _, words := range [][]int{nil, {0}, {r.a, r.a, r.a, r.a}, otherWords(someKey(), 2000)} {
			for _, mean := range wrongMeans() {
				wantNoNoise(t, words, mean, r, impl.ErrRange)
			}
		}
		enough := []int{r.a, r.a, r.a, r.a}
		for _, mean := range []int{0, 8} {
			wantNoise(t, enough, mean, r, mean, 2, impl.OK)
			wantPair(t, enough, mean, r, impl.NoisePlan{Singles: mean, Pairs: mean}, 4, impl.OK)
		}
	}
}

func TestP10NoiseOfWrongRatios(t *testing.T) {
	for _, r := range wrongRatios() {
		for _, mean := range append(wrongMeans(), 0, 1, 8) {
			wantNoNoise(t, nil, mean, r, impl.ErrRange)
			wantNoNoise(t, []int{15, 15, 15, 15}, mean, r, impl.ErrRange)
			wantNoNoise(t, slices.Repeat([]int{0}, 2000), mean, r, impl.ErrRange)
		}
	}
}

func TestP10NoiseOfWrongWords(t *testing.T) {
	for _, words := range wrongWordLists() {
		for _, r := range []ratio{{1, 2}, {15, 16}, {0, 1}, {2, 2}, {15, 17}} {
			for _, mean := range append(wrongMeans(), 0, 1, 8) {
				wantNoNoise(t, words, mean, r, impl.ErrBad)
			}
		}
	}
}

func TestP10PairsOfEveryCounts(t *testing.T) {
	for _, r := range []ratio{{1, 2}, {1, 16}, {2, 3}, {7, 11}, {15, 16}} {
		for _, mean := range []int{0, 1, 2, 8} {
			for i := range 6 * 6 * 6 * 6 {
				a, b, c, d := i%6, i/6%6, i/36%6, i/216
				plan := impl.NoisePlan{Singles: heldWithin(mean+a-b, mean), Pairs: heldWithin(mean+c-d, mean)}
				wantPair(t, wordsOfCounts(r, a, b, c, d), mean, r, plan, a+b+c+d+4, impl.OK)
			}
		}
	}
}

func TestP10PairsByTheProgramsOwnNoise(t *testing.T) {
	for _, r := range allRatios() {
		words := otherWords(shareOf(r.a*r.b), 300)
		for mean := 0; mean <= 8; mean++ {
			for begin := range 40 {
				left := words[begin*7:]
				singles, taken, code := impl.NoiseOf(left, mean, r.a, r.b)
				pairs, more, pairsCode := impl.NoiseOf(left[taken:], mean, r.a, r.b)
				if code != impl.OK || pairsCode != impl.OK {
					wantPair(t, left, mean, r, impl.NoisePlan{}, 0, impl.ErrMissing)
					continue
				}
				wantPair(t, left, mean, r, impl.NoisePlan{Singles: singles, Pairs: pairs}, taken+more, impl.OK)
			}
		}
	}
}

// TestP10PairsWhereWordsRunOut cuts the words off at every place of all four counts.
func TestP10PairsWhereWordsRunOut(t *testing.T) {
	for _, r := range allRatios() {
		words := wordsOfCounts(r, 2, 1, 0, 2)
		if word, is := passedOver(r.b); is {
			words = withPassedOver(words, word)
		}
		for n := range words {
			for _, mean := range []int{0, 1, 8} {
				wantPair(t, words[:n], mean, r, impl.NoisePlan{}, 0, impl.ErrMissing)
			}
		}
		plan := impl.NoisePlan{Singles: 5, Pairs: 2}
		wantPair(t, words, 4, r, plan, len(words), impl.OK)
		wantPair(t, append(words, 0, r.a, 65535), 4, r, plan, len(words), impl.OK)
	}
	wantPair(t, wordsOfCounts(ratio{1, 2}, 499, 499, 499, 499), 8, ratio{1, 2}, impl.NoisePlan{Singles: 8, Pairs: 8}, 2000, impl.OK)
}
