package tests

import (
	"slices"
	"testing"

	"loop.example/g00254/impl"
)

// parcelCount is how many stand in each mix of a round in which nothing is cut ahead.
func parcelCount(r impl.RoundSpec, plan impl.NoisePlan) int {
	return 2*len(r.Partner) + plan.Singles + 2*plan.Pairs
}

// wantCut says without the tests' other way what a cut may do: noise ends the round, an access is seen as one fewer.
func wantCut(t *testing.T, r impl.RoundSpec) impl.RoundOut {
	t.Helper()
	x := wantRound(t, r)
	if len(x.Inbox) != len(r.Partner) {
		t.Errorf("RunRound, %s: %+v", roundTold(r), x)
		return x
	}
	for user, other := range r.Partner {
		if body := x.Inbox[user]; body != "" && (other == user || x.Aborted || body != r.Bodies[other]) {
			t.Errorf("RunRound, %s: user %d reads %q, which was not written for it", roundTold(r), user, body)
		}
	}
	seen := impl.Histogram{Ones: x.Noise.Singles + 1, Twos: len(r.Partner) + x.Noise.Pairs - 1}
	switch {
	case x.Aborted && (x.Blamed != r.Cut || x.Seen != impl.Histogram{}):
		t.Errorf("RunRound, %s: %+v is aborted", roundTold(r), x)
	case !x.Aborted && (x.Blamed != -1 || x.Seen != seen):
		t.Errorf("RunRound, %s: %+v, want %+v seen", roundTold(r), x, seen)
	}
	return x
}

// wantEachCut cuts at each place of each layer's mix, and behind the last one.
func wantEachCut(t *testing.T, r impl.RoundSpec) {
	t.Helper()
	whole := wantAllRead(t, r)
	count := parcelCount(r, whole.Noise)
	for r.Cut = range r.Layers {
		aborted, silent := 0, 0
		for r.CutAt = range count {
			x := wantCut(t, r)
			switch {
			case x.Aborted:
				aborted++
			case !slices.Equal(x.Inbox, whole.Inbox):
				silent++
			}
		}
		talking := 0
		for user, other := range r.Partner {
			if user != other {
				talking++
			}
		}
		if aborted != whole.Noise.Singles+2*whole.Noise.Pairs || silent != talking {
			t.Errorf("RunRound, %s: %d cuts aborted it, %d took a body away", roundTold(r), aborted, silent)
		}
		for r.CutAt = count; r.CutAt <= 16; r.CutAt++ {
			if x := wantRound(t, r); !sameRound(x, whole) {
				t.Errorf("RunRound, %s: %+v, though nothing stands there", roundTold(r), x)
			}
		}
	}
}

// TestP15EachCutOfEachMatching: where noise is lost whoever lost it is blamed, where an access is lost nobody is.
func TestP15EachCutOfEachMatching(t *testing.T) {
	t.Parallel()
	plans := roundPlans()
	var rounds []impl.RoundSpec
	eachMatching(func(partner []int) {
		for layers := 1; layers <= 2; layers++ {
			rounds = append(rounds, withPlan(t, roundOf(layers, 1, partner...), plans[(3*len(rounds)+1)%9]))
		}
	})
	besideEachOther(rounds, func(r impl.RoundSpec) { wantEachCut(t, r) })
}

func TestP15EachCutOfEachNoise(t *testing.T) {
	t.Parallel()
	var rounds []impl.RoundSpec
	for _, plan := range roundPlans() {
		for layers := 1; layers <= 2; layers++ {
			for _, partner := range [][]int{nil, {0}, {1, 0}} {
				rounds = append(rounds, withPlan(t, roundOf(layers, 1, partner...), plan))
			}
		}
	}
	besideEachOther(rounds, func(r impl.RoundSpec) { wantEachCut(t, r) })
}

func TestP15EachCutWithoutNoise(t *testing.T) {
	t.Parallel()
	for layers := 1; layers <= 2; layers++ {
		for _, partner := range [][]int{nil, {0}, {1, 0}, {0, 2, 1}, {2, 3, 0, 1}} {
			wantEachCut(t, roundOf(layers, 0, partner...))
		}
	}
}

// TestP15WhoLosesNoiseIsBlamed says which: the first server by 0, the second one by 1; nothing is told but Noise.
func TestP15WhoLosesNoiseIsBlamed(t *testing.T) {
	t.Parallel()
	for layers := 1; layers <= 2; layers++ {
		r := withPlan(t, roundOf(layers, 1, 1, 0), impl.NoisePlan{Singles: 2, Pairs: 2})
		for r.Cut = range layers {
			blamed := 0
			for r.CutAt = range 10 {
				x, code := impl.RunRound(r)
				if code != impl.OK {
					t.Fatal("RunRound", code)
				}
				if !x.Aborted {
					continue
				}
				blamed++
				want := impl.RoundOut{Inbox: []string{"", ""}, Aborted: true, Blamed: r.Cut, Noise: impl.NoisePlan{Singles: 2, Pairs: 2}}
				if !sameRound(x, want) {
					t.Errorf("RunRound, %s: %+v, want %+v", roundTold(r), x, want)
				}
			}
			if blamed != 6 {
				t.Errorf("RunRound, %s: %d of 6 noises were missed", roundTold(r), blamed)
			}
		}
	}
}

// TestP15BlameByFormsAndPostedBatches works Blamed out as the chapter has it: of the first noise that the last server has
// not posted, by BlameHop of its forms behind the first server.
func TestP15BlameByFormsAndPostedBatches(t *testing.T) {
	t.Parallel()
	for layers := 1; layers <= 2; layers++ {
		r := withPlan(t, roundOf(layers, 1, 1, 0, 2), impl.NoisePlan{Singles: 2, Pairs: 1})
		_, keys := ownKeys(t, r)
		_, mixes := ownBatches(t, r)
		for r.Cut = range layers {
			for r.CutAt = range 10 {
				posted := postedBatches(t, r, mixes)
				want := -1
				for number, drop := range otherNoiseDrops(t, r.Seed, r.Round, impl.NoisePlan{Singles: 2, Pairs: 1}) {
					fill, _ := impl.HkdfExpand(otherRoundSeed(r, "fill", number, 0), []byte("noise"), 80)
					forms, _ := impl.OnionForms(otherRoundSeed(r, "noise", number, 0), r.Round, keys[1:], []byte(drop+fill))
					v, code := impl.BlameHop(forms, posted)
					if code != impl.OK {
						t.Fatal("BlameHop", code)
					}
					if want < 0 && !slices.Contains(posted[layers-1], forms[layers-1]) {
						want = 0
						if v.Lost {
							want = 1 + v.Hop
						}
					}
				}
				if x := wantCut(t, r); x.Blamed != want {
					t.Errorf("RunRound, %s: %+v, want %d blamed", roundTold(r), x, want)
				}
			}
		}
	}
}

// postedBatches are what the servers hand on: the order in which the second one has its items hangs on how many came.
func postedBatches(t *testing.T, r impl.RoundSpec, mixes []ownMix) [][]string {
	t.Helper()
	secrets, _ := ownKeys(t, r)
	items := mixes[0].mix.Items
	var out [][]string
	for layer := range r.Layers {
		if layer > 0 {
			words, _ := impl.Words(otherRoundSeed(r, "mix", layer, 0), 400)
			x, code := impl.MixItems(secrets[layer], r.Round, items, nil, nil, words)
			if code != impl.OK {
				t.Fatal("MixItems", code)
			}
			items = x.Items
		}
		if layer == r.Cut {
			items = slices.Delete(slices.Clone(items), r.CutAt, r.CutAt+1)
		}
		out = append(out, items)
	}
	return out
}

// TestP15WhatACutAccessTakesAway: a first access is missed by both of a pair, a second one and one that is idle by nobody.
func TestP15WhatACutAccessTakesAway(t *testing.T) {
	t.Parallel()
	for layers := 1; layers <= 2; layers++ {
		r := roundOf(layers, 0, 2, 1, 0)
		for r.Cut = range layers {
			times := map[string]int{}
			for r.CutAt = range 6 {
				x := wantCut(t, r)
				times[x.Inbox[0]+"|"+x.Inbox[1]+"|"+x.Inbox[2]]++
			}
			if len(times) != 2 || times["||"] != 2 || times["a||to you"] != 4 {
				t.Errorf("RunRound, %s: %v", roundTold(r), times)
			}
		}
	}
}

// TestP15CutsInEachRoundAndSeed: another seed has another order, so that another thing stands at a place.
func TestP15CutsInEachRoundAndSeed(t *testing.T) {
	t.Parallel()
	var rounds []impl.RoundSpec
	for i, seed := range someSeeds() {
		for k, round := range pairRounds() {
			r := roundOf(2, 1, 3, 1, 2, 0)
			r.Seed, r.Round, r.Cut, r.CutAt = seed, round, (i+k)%2, (5*i+k)%8
			rounds = append(rounds, r)
		}
	}
	besideEachOther(rounds, func(r impl.RoundSpec) { wantCut(t, r) })
}
