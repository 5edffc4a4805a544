package tests

import (
	"fmt"
	"slices"
	"strings"
	"testing"

	"loop.example/g00254/impl"
)

func TestP15RoundWrittenOut(t *testing.T) {
	r := impl.RoundSpec{
		Seed: someKey(), Round: 5, Layers: 2, Partner: []int{3, 1, 2, 0}, Bodies: []string{"from 0", "from 1", "from 2", "from 3"},
		A: 1, B: 2, Cut: -1,
	}
	want := impl.RoundOut{Seen: impl.Histogram{Twos: 4}, Inbox: []string{"from 3", "", "", "from 0"}, Blamed: -1}
	if x, code := impl.RunRound(r); code != impl.OK || !sameRound(x, want) {
		t.Errorf("RunRound: %+v, code %d", x, code)
	}
	r.Mean = 1
	r = withPlan(t, r, impl.NoisePlan{Singles: 2, Pairs: 1})
	want.Seen, want.Noise = impl.Histogram{Ones: 2, Twos: 5}, impl.NoisePlan{Singles: 2, Pairs: 1}
	if x, code := impl.RunRound(r); code != impl.OK || !sameRound(x, want) {
		t.Errorf("RunRound with noise: %+v, code %d", x, code)
	}
}

// wantAllRead says it without the tests' other way: whoever talks reads its partner's body, and no noise is lost.
func wantAllRead(t *testing.T, r impl.RoundSpec) impl.RoundOut {
	t.Helper()
	x := wantRound(t, r)
	if len(x.Inbox) != len(r.Partner) || x.Aborted || x.Blamed != -1 {
		t.Errorf("RunRound, %s: %+v", roundTold(r), x)
		return x
	}
	for user, other := range r.Partner {
		want := r.Bodies[other]
		if user == other {
			want = ""
		}
		if x.Inbox[user] != want {
			t.Errorf("RunRound, %s: user %d reads %q", roundTold(r), user, x.Inbox[user])
		}
	}
	if want := (impl.Histogram{Ones: x.Noise.Singles, Twos: len(r.Partner) + x.Noise.Pairs}); x.Seen != want {
		t.Errorf("RunRound, %s: %+v is seen, want %+v", roundTold(r), x.Seen, want)
	}
	return x
}

// TestP15AllMatchings: of 0 to 4 users, one and two layers, with noise of each kind and without any.
func TestP15AllMatchings(t *testing.T) {
	t.Parallel()
	var rounds []impl.RoundSpec
	eachMatching(func(partner []int) {
		for layers := 1; layers <= 2; layers++ {
			rounds = append(rounds, roundOf(layers, 0, partner...))
			for _, plan := range roundPlans() {
				rounds = append(rounds, withPlan(t, roundOf(layers, 1, partner...), plan))
			}
		}
	})
	besideEachOther(rounds, func(r impl.RoundSpec) { wantAllRead(t, r) })
}

// TestP15SeenHangsOnUsersAndNoiseAlone: not on who talks to whom, nor on what is said, nor on how many layers there are.
func TestP15SeenHangsOnUsersAndNoiseAlone(t *testing.T) {
	t.Parallel()
	for users := range 5 {
		for _, plan := range []impl.NoisePlan{{}, {Singles: 1, Pairs: 2}, {Singles: 2}} {
			times := map[impl.Histogram]int{}
			for _, partner := range matchingsOf(users) {
				for layers := 1; layers <= 2; layers++ {
					r := withPlan(t, roundOf(layers, 1, partner...), plan)
					r.Bodies = slices.Repeat([]string{strings.Repeat("x", 20*(layers-1))}, users)
					times[wantAllRead(t, r).Seen]++
				}
			}
			if times[impl.Histogram{Ones: plan.Singles, Twos: users + plan.Pairs}] != 2*len(matchingsOf(users)) {
				t.Errorf("%d users, noise %+v: seen %v", users, plan, times)
			}
		}
	}
}

func TestP15RoundWithoutUsers(t *testing.T) {
	for layers := 1; layers <= 2; layers++ {
		x := wantAllRead(t, roundOf(layers, 0))
		if !sameRound(x, impl.RoundOut{Blamed: -1}) {
			t.Errorf("nobody and no noise: %+v", x)
		}
		for _, plan := range roundPlans() {
			x := wantAllRead(t, withPlan(t, roundOf(layers, 1), plan))
			if want := (impl.RoundOut{Seen: impl.Histogram{Ones: plan.Singles, Twos: plan.Pairs}, Blamed: -1, Noise: plan}); !sameRound(x, want) {
				t.Errorf("nobody: %+v, want %+v", x, want)
			}
		}
	}
}

// saidBodies are all that a body may be like: empty, as long as may be, with noughts at its end, with any bytes.
func saidBodies() []string {
	out := []string{"", "\x00", noughts(20), ones(20), "a\x00", "\x00a", "a b", "\n", "é", someText(19), someText(20)}
	for size := range 21 {
		out = append(out, someText(size))
	}
	return out
}

func TestP15WhateverIsSaid(t *testing.T) {
	t.Parallel()
	besideEachOther(saidBodies(), func(body string) {
		for layers := 1; layers <= 2; layers++ {
			for _, other := range []string{"", "other", body} {
				r := roundOf(layers, 0, 1, 0, 2)
				r.Bodies = []string{body, other, "nobody reads it"}
				wantAllRead(t, r)
				r.Bodies[0], r.Bodies[1] = other, body
				wantAllRead(t, r)
			}
		}
	})
}

// TestP15EmptyBodies: a partner that says nothing is read as the empty text, and changes nothing of what is seen.
func TestP15EmptyBodies(t *testing.T) {
	t.Parallel()
	eachMatching(func(partner []int) {
		r := roundOf(2, 0, partner...)
		r.Bodies = make([]string, len(partner))
		if x := wantAllRead(t, r); slices.ContainsFunc(x.Inbox, func(body string) bool { return body != "" }) {
			t.Errorf("RunRound of %v, nothing said: %q", partner, x.Inbox)
		}
	})
}

func TestP15EachRoundAndSeed(t *testing.T) {
	t.Parallel()
	for i, seed := range append(someSeeds(), flipped(someKey(), 0), flipped(someKey(), 255)) {
		for _, round := range pairRounds() {
			r := roundOf(1+i%2, 1, 2, 3, 0, 1)
			r.Seed, r.Round = seed, round
			wantAllRead(t, r)
		}
	}
}

func TestP15EachRatio(t *testing.T) {
	t.Parallel()
	besideEachOther(allRatios(), func(of ratio) {
		for mean := range 2 {
			r := roundOf(2, mean, 1, 0)
			r.A, r.B = of.a, of.b
			wantAllRead(t, r)
		}
	})
}

// TestP15WhereNobodyCutsNothingIsCut: Cut -1 with any CutAt.
func TestP15WhereNobodyCutsNothingIsCut(t *testing.T) {
	t.Parallel()
	for layers := 1; layers <= 2; layers++ {
		r := withPlan(t, roundOf(layers, 1, 1, 0, 2), impl.NoisePlan{Singles: 2, Pairs: 2})
		want := wantAllRead(t, r)
		for r.CutAt = range 17 {
			if x := wantAllRead(t, r); !sameRound(x, want) {
				t.Errorf("RunRound, %s: %+v, want %+v", roundTold(r), x, want)
			}
		}
	}
}

// TestP15ByTheProgramsOwnFunctions goes the way of a round with the functions of the chapters ahead, and with what the
// chapter's other functions answer.
func TestP15ByTheProgramsOwnFunctions(t *testing.T) {
	t.Parallel()
	for _, partner := range [][]int{{1, 0, 2}, {3, 2, 1, 0}, {0, 3, 2, 1}} {
		r := withPlan(t, roundOf(2, 1, partner...), impl.NoisePlan{Singles: 1, Pairs: 2})
		posted, back := ownBatches(t, r)
		var drops []string
		var list []impl.Access
		for _, item := range posted {
			drops, list = append(drops, item[:8]), append(list, impl.Access{Drop: item[:8], Body: item[8:]})
		}
		seen, _ := impl.AccessHistogram(drops)
		bodies, code := impl.ExchangeDrops(list)
		for _, x := range slices.Backward(back) {
			bodies, code = impl.RouteBack(x.mix, x.came, bodies)
		}
		out := wantAllRead(t, r)
		if code != impl.OK || out.Seen != seen {
			t.Errorf("%v: seen %+v, code %d; want %+v", partner, out.Seen, code, seen)
		}
		for user, other := range partner {
			if other != user && out.Inbox[user] != ownReading(t, r, user, bodies[2*user]) {
				t.Errorf("%v: user %d reads %q", partner, user, out.Inbox[user])
			}
		}
	}
}

func ownKeys(t *testing.T, r impl.RoundSpec) (secrets, keys []string) {
	t.Helper()
	want := must(t)
	for layer := range r.Layers {
		secret := want(impl.ServerSecret(r.Seed, layer))
		secrets, keys = append(secrets, secret), append(keys, want(impl.PublicKey(secret)))
	}
	return secrets, keys
}

type ownMix struct {
	came int
	mix  impl.MixOut
}

// ownNoise is what the first server adds.
func ownNoise(t *testing.T, r impl.RoundSpec, behind []string) []string {
	t.Helper()
	plan, _ := impl.RoundNoise(r)
	drops, _ := impl.NoiseDrops(r.Seed, r.Round, plan)
	var out []string
	for number, drop := range drops {
		fill, _ := impl.HkdfExpand(otherRoundSeed(r, "fill", number, 0), []byte("noise"), 80)
		onion, code := impl.WrapOnion(otherRoundSeed(r, "noise", number, 0), r.Round, behind, []byte(drop+fill))
		if code != impl.OK {
			t.Fatal("WrapOnion", code)
		}
		out = append(out, string(onion))
	}
	return out
}

func ownBatches(t *testing.T, r impl.RoundSpec) (posted []string, back []ownMix) {
	t.Helper()
	secrets, keys := ownKeys(t, r)
	for user := range r.Partner {
		for which := range 2 {
			onion, _ := impl.UserOnion(r, user, which)
			posted = append(posted, string(onion))
		}
	}
	noise := ownNoise(t, r, keys[1:])
	for layer, secret := range secrets {
		words, _ := impl.Words(otherRoundSeed(r, "mix", layer, 0), 400)
		x, code := impl.MixItems(secret, r.Round, posted, noise, nil, words)
		if code != impl.OK || x.Bad != 0 || x.Again != 0 {
			t.Fatalf("MixItems: %d bad, %d again, code %d", x.Bad, x.Again, code)
		}
		back = append(back, ownMix{len(posted), x})
		posted, noise = x.Items, nil
	}
	return posted, back
}

func ownReading(t *testing.T, r impl.RoundSpec, user int, answer string) string {
	t.Helper()
	_, keys := ownKeys(t, r)
	other := r.Partner[user]
	replies, _ := impl.ReplyKeys(otherRoundSeed(r, "onion", user, 0), r.Round, keys)
	box, _ := impl.OpenReply(replies, []byte(answer))
	drops, _ := impl.PlanDrops(r.Seed, r.Round, r.Partner)
	side := map[bool]int{true: 1}[other > user]
	key, _ := impl.PairKey(otherPair(r.Seed, byte(user), byte(other)), r.Round, side)
	text, code := impl.OpenBox(key, otherNonce(r.Round), []byte(drops[2*user]), box)
	m, messageCode := impl.ReadMessage(text)
	if code != impl.OK || messageCode != impl.OK || m.Drop != drops[2*user] || m.Round != r.Round {
		t.Fatal("OpenBox, ReadMessage", code, messageCode, fmt.Sprintf("%+v", m))
	}
	return m.Body
}
