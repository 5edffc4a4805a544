package tests

import (
	"fmt"
	"testing"

	"loop.example/g00254/impl"
)

func wantRoundNoise(t *testing.T, r impl.RoundSpec) impl.NoisePlan {
	t.Helper()
	plan, code := impl.RoundNoise(r)
	if want := otherRoundNoise(r); code != impl.OK || plan != want {
		t.Errorf("RoundNoise, %s: %+v, code %d; want %+v", roundTold(r), plan, code, want)
	}
	return plan
}

// TestP15RoundNoise: for all ratios and both means, by the tests' own way to count and by NoisePair.
func TestP15RoundNoise(t *testing.T) {
	times := map[impl.NoisePlan]int{}
	for _, of := range allRatios() {
		for mean := range 2 {
			for i, seed := range someSeeds() {
				r := roundOf(1, mean, 0)
				r.Seed, r.Round, r.A, r.B = seed, pairRounds()[(i+of.a)%9], of.a, of.b
				plan := wantRoundNoise(t, r)
				words, _ := impl.Words(otherRoundSeed(r, "amount", 0, 0), 400)
				if want, _, code := impl.NoisePair(words, mean, of.a, of.b); code != impl.OK || plan != want {
					t.Errorf("RoundNoise, %s: %+v; NoisePair %+v, code %d", roundTold(r), plan, want, code)
				}
				times[plan]++
			}
		}
	}
	if len(times) != 9 || times[impl.NoisePlan{}] < 480 {
		t.Errorf("noise: %v", times)
	}
}

func TestP15RoundNoiseWithoutAMean(t *testing.T) {
	for round := range 100 {
		r := roundOf(2, 0, 1, 0)
		r.Round, r.A, r.B = round, 15, 16
		if plan := wantRoundNoise(t, r); plan != (impl.NoisePlan{}) {
			t.Errorf("RoundNoise, %s: %+v", roundTold(r), plan)
		}
	}
}

// TestP15RoundNoiseHangsOnSeedAndRound: not on users, layers and cuts.
func TestP15RoundNoiseHangsOnSeedAndRound(t *testing.T) {
	r := withPlan(t, roundOf(1, 1, 0), impl.NoisePlan{Singles: 1, Pairs: 2})
	for _, partner := range [][]int{nil, {1, 0}, {3, 2, 1, 0}} {
		with := roundOf(2, 1, partner...)
		with.Round, with.Cut, with.CutAt = r.Round, 1, 16
		if plan := wantRoundNoise(t, with); plan != (impl.NoisePlan{Singles: 1, Pairs: 2}) {
			t.Errorf("RoundNoise, %s: %+v", roundTold(with), plan)
		}
	}
}

// longDraw is a round, of 15 to 16, whose noise takes so many words; such rounds are rare and were looked for.
type longDraw struct{ seed, round, taken int }

func (x longDraw) spec(partner ...int) impl.RoundSpec {
	r := roundOf(2, 1, partner...)
	r.Seed, r.Round, r.A, r.B = libraryHash(fmt.Append(nil, "words run out ", x.seed)), x.round, 15, 16
	return r
}

func longDraws() []longDraw {
	return []longDraw{
		{1282, 67779, 398}, {1930, 991824, 398}, {2007, 430798, 399}, {2069, 782383, 399}, {3042, 5150, 399}, {1793, 117969, 400},
		{2055, 500328, 400}, {2122, 511108, 400}, {272, 654629, 400}, {3352, 470709, 400}, {676, 216532, 400}, {801, 290418, 400},
		{1688, 292238, 401}, {224, 704065, 401}, {5625, 411949, 401}, {1477, 801035, 402}, {2215, 48032, 402}, {563, 49072, 402},
		{68, 596340, 402}, {2519, 721659, 403}, {60, 460310, 409}, {335, 121169, 406}, {422, 294921, 407}, {1353, 53997, 409},
	}
}

// TestP15NoNoiseWhereWordsRunOut: 400 words are at hand, and not one fewer or more.
func TestP15NoNoiseWhereWordsRunOut(t *testing.T) {
	enough, ranOut := 0, 0
	for _, x := range longDraws() {
		r := x.spec(1, 0)
		plan, taken, code := impl.NoisePair(otherWords(otherRoundSeed(r, "amount", 0, 0), 450), 1, 15, 16)
		if code != impl.OK || taken != x.taken {
			t.Fatalf("%+v: %d words are taken, code %d", x, taken, code)
		}
		got := wantRoundNoise(t, r)
		switch {
		case x.taken <= 400 && got != plan, x.taken > 400 && got != impl.NoisePlan{}:
			t.Errorf("RoundNoise, %d words are needed: %+v, of all of them %+v", x.taken, got, plan)
		case x.taken == 400 && plan != impl.NoisePlan{}:
			enough++
		case x.taken == 401 && plan != impl.NoisePlan{}:
			ranOut++
		}
		wantAllRead(t, r)
	}
	if enough == 0 || ranOut == 0 {
		t.Errorf("%d rounds need just 400 words, %d one more", enough, ranOut)
	}
}

// TestP15LongDrawsHaveAllUsers: where no noise is added a cut takes accesses alone.
func TestP15LongDrawsHaveAllUsers(t *testing.T) {
	t.Parallel()
	rounds := []impl.RoundSpec{longDraw{1688, 292238, 401}.spec(1, 0), longDraw{68, 596340, 402}.spec(0, 2, 1), longDraw{1793, 117969, 400}.spec(1, 0)}
	besideEachOther(rounds, func(r impl.RoundSpec) { wantEachCut(t, r) })
}
