package tests

import (
	"fmt"
	"math"
	"slices"
	"testing"

	"loop.example/g00254/impl"
)

// noiseArgs are what the functions of the chapter are handed, each of them some.
type noiseArgs struct {
	words       []int
	n, by, mean int
	r           ratio
}

func (x noiseArgs) String() string {
	return fmt.Sprint(len(x.words), " words, n ", x.n, ", by ", x.by, ", mean ", x.mean, ", ratio ", x.r)
}

func (x noiseArgs) longWords() bool { return len(x.words) > 4096 }

func (x noiseArgs) wrongWords() bool {
	return len(x.words) > 2000 || slices.ContainsFunc(x.words, func(word int) bool { return !within(word, 65535) })
}

func (x noiseArgs) wrongMean() bool { return !within(x.mean, 8) }

func (x noiseArgs) wrongRatio() bool { return !x.r.right() }

func (x noiseArgs) wrongNumber() bool { return x.n < 0 || x.n > 16 || x.n > 2*x.mean }

// tooFew is asked of a right ratio and right words alone: they have fewer counts than are asked for.
func (x noiseArgs) tooFew(counts int) bool {
	left := x.words
	for range counts {
		_, taken, code := otherCount(left, x.r)
		if code != impl.OK {
			return true
		}
		left = left[taken:]
	}
	return false
}

// noiseCall tells an answer as a text, the empty one of a zero answer; its faults stand as the chapter names them.
type noiseCall struct {
	name   string
	call   func(x noiseArgs) (string, int)
	faults func(x noiseArgs) []fault
}

// drawFaults are those of all calls that draw, but for words that run out.
func (x noiseArgs) drawFaults(outOfBounds bool) []fault {
	return []fault{{x.longWords(), impl.ErrLong}, {x.wrongWords(), impl.ErrBad}, {outOfBounds, impl.ErrRange}}
}

func (x noiseArgs) allDrawFaults(outOfBounds bool, counts int) []fault {
	faults := x.drawFaults(outOfBounds)
	if firstFault(faults) != impl.OK {
		return faults
	}
	return append(faults, fault{x.tooFew(counts), impl.ErrMissing})
}

func drawnNoiseCalls() []noiseCall {
	return []noiseCall{
		{"GeometricOf", func(x noiseArgs) (string, int) {
			count, taken, code := impl.GeometricOf(x.words, x.r.a, x.r.b)
			return toldUnlessZero(count == 0 && taken == 0, []int{count, taken}), code
		}, func(x noiseArgs) []fault { return x.allDrawFaults(x.wrongRatio(), 1) }},
		{"NoiseOf", func(x noiseArgs) (string, int) {
			noise, taken, code := impl.NoiseOf(x.words, x.mean, x.r.a, x.r.b)
			return toldUnlessZero(noise == 0 && taken == 0, []int{noise, taken}), code
		}, func(x noiseArgs) []fault { return x.allDrawFaults(x.wrongMean() || x.wrongRatio(), 2) }},
		{"NoisePair", func(x noiseArgs) (string, int) {
			plan, taken, code := impl.NoisePair(x.words, x.mean, x.r.a, x.r.b)
			return toldUnlessZero(plan == impl.NoisePlan{} && taken == 0, []int{plan.Singles, plan.Pairs, taken}), code
		}, func(x noiseArgs) []fault { return x.allDrawFaults(x.wrongMean() || x.wrongRatio(), 4) }},
	}
}

func countedNoiseCalls() []noiseCall {
	return []noiseCall{
		{"NoiseTotal", func(x noiseArgs) (string, int) {
			total, code := impl.NoiseTotal(x.mean, x.r.a, x.r.b)
			return toldUnlessZero(total == 0, total), code
		}, func(x noiseArgs) []fault { return []fault{{x.wrongMean() || x.wrongRatio(), impl.ErrRange}} }},
		{"NoiseWeight", func(x noiseArgs) (string, int) {
			weight, code := impl.NoiseWeight(x.n, x.mean, x.r.a, x.r.b)
			return toldUnlessZero(weight == 0, weight), code
		}, func(x noiseArgs) []fault {
			return []fault{{x.wrongMean() || x.wrongRatio() || x.wrongNumber(), impl.ErrRange}}
		}},
		{"ShiftNoise", func(x noiseArgs) (string, int) {
			shifted, code := impl.ShiftNoise(x.n, x.by, x.mean)
			return toldUnlessZero(shifted == 0, shifted), code
		}, func(x noiseArgs) []fault {
			outOfBounds := x.wrongMean() || x.mean == 0 || x.wrongNumber() || x.by < -2 || x.by > 2
			return []fault{{outOfBounds, impl.ErrRange}, {!outOfBounds && !within(x.n+x.by, 2*x.mean), impl.ErrNone}}
		}},
	}
}

func noiseCalls() []noiseCall { return append(drawnNoiseCalls(), countedNoiseCalls()...) }

// noiseWordLists have all lengths at which a code changes, and words that are wrong, that run out, and that do for all calls.
func noiseWordLists() [][]int {
	return [][]int{
		nil, {0}, {15}, {15, 15}, {0, 15, 15, 15}, {15, 15, 15, 15}, {0, 15, 15, 0, 0, 15, 15}, {65535, 65535, 65535, 65535},
		{-1}, {65536}, {15, 15, 15, 15, -1}, {15, 15, 15, 15, 65536}, {math.MinInt}, {math.MaxInt},
		slices.Repeat([]int{15}, 2000), slices.Repeat([]int{15}, 2001), slices.Repeat([]int{0}, 2000), otherWords(someKey(), 2000),
		slices.Repeat([]int{15}, impl.MaxList), slices.Repeat([]int{-1}, impl.MaxList),
		slices.Repeat([]int{15}, impl.MaxList+1), slices.Repeat([]int{-1}, impl.MaxList+1),
	}
}

func codeMeans() []int { return []int{math.MinInt, -1, 0, 1, 8, 9, math.MaxInt} }

func codeRatios() []ratio {
	return []ratio{
		{1, 2}, {1, 16}, {7, 8}, {3, 5}, {15, 16},
		{0, 1}, {0, 16}, {1, 1}, {1, 17}, {15, 15}, {15, 17}, {16, 16}, {16, 17}, {5, 3}, {-1, 2}, {3, -1},
		{math.MinInt, 16}, {math.MinInt, math.MinInt}, {math.MaxInt, math.MaxInt}, {math.MaxInt, math.MinInt}, {1, math.MaxInt}, {1, math.MinInt},
	}
}

func codeNumbers() []int { return []int{math.MinInt, -1, 0, 1, 2, 3, 15, 16, 17, math.MaxInt} }

func codeShifts() []int { return []int{math.MinInt, -3, -2, -1, 0, 1, 2, 3, math.MaxInt} }

func wantNoiseCode(t *testing.T, f noiseCall, x noiseArgs) {
	t.Helper()
	want := firstFault(f.faults(x))
	got, code := f.call(x)
	if code != want || code != impl.OK && got != "" {
		t.Errorf("%s of %s: %q, code %d; want code %d", f.name, x, got, code, want)
	}
}

// TestP1NoiseCodesOfDraws holds each code against the first fault that the chapter names, over all that may be wrong
// together.
func TestP1NoiseCodesOfDraws(t *testing.T) {
	lists := noiseWordLists()
	for _, f := range drawnNoiseCalls() {
		for _, words := range lists {
			for _, mean := range codeMeans() {
				for _, r := range codeRatios() {
					wantNoiseCode(t, f, noiseArgs{words: words, mean: mean, r: r})
				}
			}
		}
	}
}

func TestP1NoiseCodesOfNumbers(t *testing.T) {
	for _, f := range countedNoiseCalls() {
		for _, n := range codeNumbers() {
			for _, by := range codeShifts() {
				for _, mean := range append(codeMeans(), 2, 7) {
					for _, r := range codeRatios() {
						wantNoiseCode(t, f, noiseArgs{n: n, by: by, mean: mean, r: r})
					}
				}
			}
		}
	}
}

// TestP1NoiseLongFirst: more words than a list may have come ahead of words, a mean and a ratio that are wrong.
func TestP1NoiseLongFirst(t *testing.T) {
	for _, words := range longNumbers() {
		for _, r := range codeRatios() {
			wantCount(t, words, r, 0, 0, impl.ErrLong)
			for _, mean := range codeMeans() {
				wantNoNoise(t, words, mean, r, impl.ErrLong)
			}
		}
	}
}

// someNoiseArgs are right and wrong ones, of each of the lists of words.
func someNoiseArgs() []noiseArgs {
	var out []noiseArgs
	for _, words := range append(noiseWordLists(), wrongWordLists()...) {
		out = append(out,
			noiseArgs{words, 1, 1, 2, ratio{3, 5}}, noiseArgs{words, 16, 1, 8, ratio{1, 2}}, noiseArgs{words, 0, -2, 0, ratio{15, 16}},
			noiseArgs{words, 1, 3, 9, ratio{1, 2}}, noiseArgs{words, 3, 0, 1, ratio{2, 2}})
	}
	return out
}

func TestP1NoiseWordsAreNotWrittenIntoNorReadBehind(t *testing.T) {
	for _, x := range someNoiseArgs() {
		for _, f := range noiseCalls() {
			with := x
			inside, whole := guardedNumbers(x.words)
			with.words = inside
			got, code := f.call(with)
			if _, want := guardedNumbers(x.words); !slices.Equal(whole, want) {
				t.Errorf("%s of %s wrote into its words, or around them", f.name, x)
			}
			with.words = slices.Clip(slices.Clone(x.words))
			if want, wanted := f.call(with); got != want || code != wanted {
				t.Errorf("%s of %s has another answer with others behind", f.name, x)
			}
		}
	}
}

func TestP1NoiseOfNilAndEmpty(t *testing.T) {
	for _, x := range someNoiseArgs() {
		for _, f := range noiseCalls() {
			x.words = nil
			want, wanted := f.call(x)
			for _, empty := range [][]int{{}, make([]int, 0, 70), otherWords(someKey(), 70)[:0]} {
				x.words = empty
				if got, code := f.call(x); got != want || code != wanted {
					t.Errorf("%s of %s: nil and an empty list differ", f.name, x)
				}
			}
		}
	}
	for _, empty := range [][]int{nil, {}, make([]int, 0, 70)} {
		wantCount(t, empty, ratio{3, 5}, 0, 0, impl.ErrMissing)
		wantCount(t, empty, ratio{5, 5}, 0, 0, impl.ErrRange)
		wantNoNoise(t, empty, 8, ratio{3, 5}, impl.ErrMissing)
		wantNoNoise(t, empty, 9, ratio{3, 5}, impl.ErrRange)
	}
}

// TestP1NoiseAtBothEndsOfInt puts the least and the greatest int into each place and into all together.
func TestP1NoiseAtBothEndsOfInt(t *testing.T) {
	ends := []int{math.MinInt, math.MinInt + 1, math.MinInt / 2, math.MaxInt / 2, math.MaxInt/2 + 1, math.MaxInt - 1, math.MaxInt}
	right := noiseArgs{words: []int{15, 15, 15, 15}, n: 1, by: 1, mean: 8, r: ratio{1, 2}}
	for _, f := range noiseCalls() {
		for _, end := range ends {
			for _, other := range ends {
				for _, change := range []func(x *noiseArgs){
					func(x *noiseArgs) { x.n = end },
					func(x *noiseArgs) { x.by = end },
					func(x *noiseArgs) { x.mean = end },
					func(x *noiseArgs) { x.r.a = end },
					func(x *noiseArgs) { x.r.b = end },
					func(x *noiseArgs) { x.words = []int{15, end} },
					func(x *noiseArgs) { x.r = ratio{end, other} },
					func(x *noiseArgs) { x.n, x.by = end, other },
					func(x *noiseArgs) { x.n, x.mean = end, other },
					func(x *noiseArgs) { x.by, x.mean = end, other },
					func(x *noiseArgs) { x.n, x.by, x.mean, x.r = end, other, end, ratio{other, end} },
				} {
					x := right
					change(&x)
					wantNoiseCode(t, f, x)
				}
			}
		}
	}
}

// noiseAnswers tells what all functions of the chapter answer, in one order or the other.
func noiseAnswers(backwards bool) map[string]string {
	args, calls := someNoiseArgs(), noiseCalls()
	if backwards {
		slices.Reverse(args)
		slices.Reverse(calls)
	}
	out := map[string]string{}
	for _, x := range args {
		for _, f := range calls {
			out[fmt.Sprintf("%s %v %s", f.name, x.words, x)] = fmt.Sprintln(f.call(x))
		}
	}
	return out
}

func TestP1NoiseAlikeArgumentsAlikeAnswers(t *testing.T) { wantAlike(t, noiseAnswers) }

func TestP1NoiseCallsBesideEachOther(t *testing.T) { wantAlikeBeside(t, noiseAnswers) }
