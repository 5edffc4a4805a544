package tests

import (
	"math/big"
	"slices"
	"testing"

	"loop.example/g00254/impl"
)

func wantTotal(t *testing.T, mean int, r ratio, total, wanted int) {
	t.Helper()
	if got, code := impl.NoiseTotal(mean, r.a, r.b); got != total || code != wanted {
		t.Errorf("NoiseTotal of %d, %v: %d, code %d; want %d, code %d", mean, r, got, code, total, wanted)
	}
}

func wantWeight(t *testing.T, n, mean int, r ratio, weight, wanted int) {
	t.Helper()
	if got, code := impl.NoiseWeight(n, mean, r.a, r.b); got != weight || code != wanted {
		t.Errorf("NoiseWeight of %d, %d, %v: %d, code %d; want %d, code %d", n, mean, r, got, code, weight, wanted)
	}
}

func wantShift(t *testing.T, n, by, mean, want, wanted int) {
	t.Helper()
	if got, code := impl.ShiftNoise(n, by, mean); got != want || code != wanted {
		t.Errorf("ShiftNoise of %d, %d, %d: %d, code %d; want %d, code %d", n, by, mean, got, code, want, wanted)
	}
}

func eachNoise(do func(mean int, r ratio)) {
	for mean := 0; mean <= 8; mean++ {
		for _, r := range allRatios() {
			do(mean, r)
		}
	}
}

func weightsOf(t *testing.T, mean int, r ratio) []int {
	t.Helper()
	var out []int
	for n := 0; n <= 2*mean; n++ {
		weight, code := impl.NoiseWeight(n, mean, r.a, r.b)
		if code != impl.OK {
			t.Fatalf("NoiseWeight of %d, %d, %v: code %d", n, mean, r, code)
		}
		out = append(out, weight)
	}
	return out
}

func powerOf(base, exponent int) int {
	return int(new(big.Int).Exp(big.NewInt(int64(base)), big.NewInt(int64(exponent)), nil).Int64())
}

// chanceOf is how likely one count less a second one is just d, or, of an end, d or more: with q being a to b a count is
// k with a chance of (1 - q) times q to the k, and all of these are summed up.
func chanceOf(d int, end bool, r ratio) *big.Rat {
	one, q := big.NewRat(1, 1), big.NewRat(int64(r.a), int64(r.b))
	none := new(big.Rat).Sub(one, q)
	square := new(big.Rat).Mul(q, q)
	out := new(big.Rat).Mul(none, none)
	out.Quo(out, square.Sub(one, square))
	for range d {
		out.Mul(out, q)
	}
	if end {
		out.Quo(out, none)
	}
	return out
}

func TestP10TotalVectors(t *testing.T) {
	for _, x := range []struct {
		mean  int
		r     ratio
		total int
	}{
		{0, ratio{1, 2}, 3}, {1, ratio{1, 2}, 6}, {2, ratio{1, 2}, 12}, {8, ratio{1, 2}, 768},
		{0, ratio{15, 16}, 31}, {1, ratio{15, 16}, 496}, {8, ratio{15, 16}, 133143986176}, {3, ratio{3, 5}, 1000}, {8, ratio{1, 16}, 73014444032},
	} {
		wantTotal(t, x.mean, x.r, x.total, impl.OK)
	}
}

// TestP10WeightsSumUp holds the total of every mean and ratio against the sum of its weights.
func TestP10WeightsSumUp(t *testing.T) {
	eachNoise(func(mean int, r ratio) {
		sum := 0
		for _, weight := range weightsOf(t, mean, r) {
			if weight <= 0 {
				t.Errorf("of mean %d, %v a number never comes", mean, r)
			}
			sum += weight
		}
		wantTotal(t, mean, r, sum, impl.OK)
		wantTotal(t, mean, r, (r.a+r.b)*powerOf(r.b, mean), impl.OK)
	})
}

func TestP10WeightVectors(t *testing.T) {
	for _, x := range []struct {
		mean    int
		r       ratio
		weights []int
	}{
		{0, ratio{1, 2}, []int{3}}, {0, ratio{15, 16}, []int{31}},
		{1, ratio{1, 2}, []int{2, 2, 2}}, {1, ratio{15, 16}, []int{240, 16, 240}}, {1, ratio{1, 16}, []int{16, 240, 16}},
		{2, ratio{3, 5}, []int{45, 30, 50, 30, 45}},
		{3, ratio{1, 3}, []int{3, 6, 18, 54, 18, 6, 3}},
		{4, ratio{2, 3}, []int{48, 24, 36, 54, 81, 54, 36, 24, 48}},
	} {
		for n, weight := range x.weights {
			wantWeight(t, n, x.mean, x.r, weight, impl.OK)
		}
		wantWeight(t, -1, x.mean, x.r, 0, impl.ErrRange)
		wantWeight(t, len(x.weights), x.mean, x.r, 0, impl.ErrRange)
	}
}

func TestP10WeightsAreTheSameOnBothSides(t *testing.T) {
	eachNoise(func(mean int, r ratio) {
		weights := weightsOf(t, mean, r)
		for d := 0; d <= mean; d++ {
			if weights[mean-d] != weights[mean+d] {
				t.Errorf("of mean %d, %v: %d below the mean and above it comes %d and %d times", mean, r, d, weights[mean-d], weights[mean+d])
			}
		}
	})
}

func TestP10WeightsAtBothEnds(t *testing.T) {
	eachNoise(func(mean int, r ratio) {
		if mean == 0 {
			total, _ := impl.NoiseTotal(0, r.a, r.b)
			wantWeight(t, 0, 0, r, total, impl.OK)
			wantWeight(t, 0, 0, r, r.a+r.b, impl.OK)
			return
		}
		wantWeight(t, 0, mean, r, r.b*powerOf(r.a, mean), impl.OK)
		wantWeight(t, 2*mean, mean, r, r.b*powerOf(r.a, mean), impl.OK)
	})
}

func TestP10WeightsWithinTheEnds(t *testing.T) {
	eachNoise(func(mean int, r ratio) {
		for d := 0; d < mean; d++ {
			weight := (r.b - r.a) * powerOf(r.a, d) * powerOf(r.b, mean-d)
			wantWeight(t, mean-d, mean, r, weight, impl.OK)
			wantWeight(t, mean+d, mean, r, weight, impl.OK)
		}
	})
}

// TestP10WeightsAreChances works out how likely each number is from what a count is alone.
func TestP10WeightsAreChances(t *testing.T) {
	eachNoise(func(mean int, r ratio) {
		total, _ := impl.NoiseTotal(mean, r.a, r.b)
		for n, weight := range weightsOf(t, mean, r) {
			d := max(n-mean, mean-n)
			chance := chanceOf(d, d == mean, r)
			if mean == 0 {
				chance = big.NewRat(1, 1)
			}
			if got := big.NewRat(int64(weight), int64(total)); got.Cmp(chance) != 0 {
				t.Errorf("NoiseWeight of %d, %d, %v: %s of the total; want %s", n, mean, r, got, chance)
			}
		}
	})
}

// eachNumbers tells of all lists of so many numbers below b.
func eachNumbers(b, length int, do func(words []int)) {
	words := make([]int, length)
	for range powerOf(b, length) {
		do(words)
		for i := range words {
			words[i]++
			if words[i] < b {
				break
			}
			words[i] = 0
		}
	}
}

// TestP10WeightsOfAllWords counts how often each number comes of all lists of numbers; what is not settled by a list,
// for its numbers run out, may come on either side.
func TestP10WeightsOfAllWords(t *testing.T) {
	for _, x := range []struct {
		r      ratio
		length int
	}{{ratio{1, 2}, 14}, {ratio{1, 3}, 9}, {ratio{2, 3}, 9}, {ratio{1, 4}, 7}, {ratio{3, 5}, 6}, {ratio{1, 16}, 4}} {
		all := powerOf(x.r.b, x.length)
		for _, mean := range []int{0, 1, 2, 3, 8} {
			comes, open := make([]int, 2*mean+1), 0
			eachNumbers(x.r.b, x.length, func(words []int) {
				noise, _, code := impl.NoiseOf(words, mean, x.r.a, x.r.b)
				if code == impl.OK {
					comes[noise]++
				} else {
					open++
				}
			})
			total, _ := impl.NoiseTotal(mean, x.r.a, x.r.b)
			for n, weight := range weightsOf(t, mean, x.r) {
				if weight*all < comes[n]*total || weight*all > (comes[n]+open)*total {
					t.Errorf("of mean %d, %v: %d comes %d to %d times of %d; its weight is %d of %d", mean, x.r, n, comes[n], comes[n]+open, all, weight, total)
				}
			}
		}
	}
}

// TestP10ShiftByOneChangesByTheRatioAtMost leaves out both ends, as the promise does.
func TestP10ShiftByOneChangesByTheRatioAtMost(t *testing.T) {
	eachNoise(func(mean int, r ratio) {
		if mean == 0 {
			return
		}
		weights := weightsOf(t, mean, r)
		for n := 1; n < 2*mean; n++ {
			for _, by := range []int{-1, 1} {
				shifted, code := impl.ShiftNoise(n, by, mean)
				if code != impl.OK {
					t.Fatalf("ShiftNoise of %d, %d, %d: code %d", n, by, mean, code)
				}
				if shifted == 0 || shifted == 2*mean {
					continue
				}
				if weights[shifted]*r.b < weights[n]*r.a || weights[shifted]*r.a > weights[n]*r.b {
					t.Errorf("of mean %d, %v: %d comes %d times, %d comes %d times", mean, r, n, weights[n], shifted, weights[shifted])
				}
			}
		}
	})
}

func TestP10TotalsAndWeightsOutOfBounds(t *testing.T) {
	for _, r := range edgeRatios() {
		for _, mean := range append(wrongMeans(), 0, 1, 7, 8) {
			if r.right() && within(mean, 8) {
				continue
			}
			wantTotal(t, mean, r, 0, impl.ErrRange)
			for _, n := range []int{-1, 0, 1, 8, 16, 17} {
				wantWeight(t, n, mean, r, 0, impl.ErrRange)
			}
		}
	}
	for _, mean := range wrongMeans() {
		for _, n := range append(farNumbers(), mean) {
			wantWeight(t, n, mean, ratio{1, 2}, 0, impl.ErrRange)
		}
	}
}

func TestP10WeightsBeyondTheEnds(t *testing.T) {
	eachNoise(func(mean int, r ratio) {
		for _, n := range append(farNumbers(), -1, 2*mean+1, 2*mean+2) {
			wantWeight(t, n, mean, r, 0, impl.ErrRange)
		}
	})
}

func TestP10EveryShift(t *testing.T) {
	for mean := 1; mean <= 8; mean++ {
		for n := 0; n <= 2*mean; n++ {
			for by := -2; by <= 2; by++ {
				if within(n+by, 2*mean) {
					wantShift(t, n, by, mean, n+by, impl.OK)
				} else {
					wantShift(t, n, by, mean, 0, impl.ErrNone)
				}
			}
		}
	}
}

func TestP10ShiftVectors(t *testing.T) {
	for _, x := range []struct{ n, by, mean, want, code int }{
		{0, 0, 1, 0, 0}, {0, 1, 1, 1, 0}, {0, 2, 1, 2, 0}, {2, -2, 1, 0, 0}, {1, 2, 1, 0, impl.ErrNone}, {1, -2, 1, 0, impl.ErrNone},
		{16, 0, 8, 16, 0}, {15, 1, 8, 16, 0}, {16, 1, 8, 0, impl.ErrNone}, {0, -1, 8, 0, impl.ErrNone}, {14, 2, 8, 16, 0}, {2, -2, 8, 0, 0},
		{0, 0, 0, 0, impl.ErrRange}, {0, 0, 9, 0, impl.ErrRange}, {17, -1, 8, 0, impl.ErrRange}, {-1, 1, 8, 0, impl.ErrRange},
		{3, -1, 1, 0, impl.ErrRange}, {0, -3, 1, 0, impl.ErrRange}, {0, 3, 1, 0, impl.ErrRange}, {4, 3, 8, 0, impl.ErrRange}, {4, -3, 8, 0, impl.ErrRange},
	} {
		wantShift(t, x.n, x.by, x.mean, x.want, x.code)
	}
}

func wrongShifts() []int {
	return slices.DeleteFunc(append(farNumbers(), -3, 3, 4), func(by int) bool { return by >= -2 && by <= 2 })
}

// TestP10ShiftsOutOfBounds has ErrRange ahead of ErrNone where both would come.
func TestP10ShiftsOutOfBounds(t *testing.T) {
	for _, mean := range append(wrongMeans(), 0) {
		for _, n := range append(farNumbers(), -1, 0, 1, mean) {
			for _, by := range append(farNumbers(), -3, -1, 0, 1, 2, 3) {
				wantShift(t, n, by, mean, 0, impl.ErrRange)
			}
		}
	}
	for mean := 1; mean <= 8; mean++ {
		for _, n := range append(farNumbers(), -1, 2*mean+1, 2*mean+2) {
			for by := -2; by <= 2; by++ {
				wantShift(t, n, by, mean, 0, impl.ErrRange)
			}
		}
		for n := 0; n <= 2*mean; n++ {
			for _, by := range wrongShifts() {
				wantShift(t, n, by, mean, 0, impl.ErrRange)
			}
		}
	}
}
