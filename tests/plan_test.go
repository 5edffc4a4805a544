package tests

import (
	"fmt"
	"math"
	"slices"
	"testing"

	"loop.example/g00254/impl"
)

// matchingsOf are all matchings of n users: the last one is idle, or one of the others talks to it.
func matchingsOf(n int) [][]int {
	if n == 0 {
		return [][]int{nil}
	}
	var out [][]int
	last := n - 1
	for _, fewer := range matchingsOf(last) {
		out = append(out, append(slices.Clone(fewer), last))
		for user, other := range fewer {
			if user == other {
				with := append(slices.Clone(fewer), user)
				with[user] = last
				out = append(out, with)
			}
		}
	}
	return out
}

func wantMatching(t *testing.T, partner []int, want bool) {
	t.Helper()
	if got := impl.MatchingOK(partner); got != want {
		t.Errorf("MatchingOK of %d users %s: %v", len(partner), told(partner), got)
	}
}

func TestP13MatchingsWrittenOut(t *testing.T) {
	for _, partner := range [][]int{nil, {0}, {0, 1}, {1, 0}, {1, 0, 2}, {2, 1, 0}, {0, 2, 1}, {3, 2, 1, 0}, {1, 0, 3, 2, 5, 4, 7, 6}, {7, 6, 5, 4, 3, 2, 1, 0}, numbersUpTo(8)} {
		wantMatching(t, partner, true)
	}
	for _, partner := range [][]int{{1}, {-1}, {0, 0}, {1, 1}, {0, 2}, {2, 0}, {-1, 1}, {1, 2, 0}, {2, 0, 1}, {1, 0, 1}, {1, 0, 3}, {1, 2, 3, 0}, {3, 0, 1, 2}} {
		wantMatching(t, partner, false)
	}
}

// TestP13AllListsOfFewPartners: those that are matchings are right, and all others are not.
func TestP13AllListsOfFewPartners(t *testing.T) {
	for n := range 6 {
		times := map[string]int{}
		for _, partner := range matchingsOf(n) {
			times[fmt.Sprint(partner)]++
		}
		met := 0
		eachNumbers(n+2, n, func(numbers []int) {
			partner := make([]int, n)
			for user, other := range numbers {
				partner[user] = other - 1
			}
			is := times[fmt.Sprint(partner)] > 0
			wantMatching(t, partner, is)
			if is {
				met++
			}
		})
		if met != len(times) {
			t.Errorf("%d matchings of %d users were met, not %d", met, n, len(times))
		}
	}
}

func TestP13AllMatchings(t *testing.T) {
	for n, want := range []int{1, 1, 2, 4, 10, 26, 76, 232, 764} {
		all := matchingsOf(n)
		if len(all) != want {
			t.Fatalf("%d matchings of %d users", len(all), n)
		}
		for _, partner := range all {
			wantMatching(t, partner, true)
		}
	}
}

// wrongMatchings have one partner that is another one than in a matching, or are of more than 8.
func wrongMatchings() [][]int {
	var out [][]int
	for n := 1; n <= 8; n++ {
		for _, partner := range [][]int{numbersUpTo(n), turnedRound(numbersUpTo(n))} {
			for user := range partner {
				for _, wrong := range append(farNumbers(), -1, n, n+1, 8, math.MaxInt, math.MinInt) {
					with := slices.Clone(partner)
					with[user] = wrong
					out = append(out, with)
				}
				for other := range partner {
					if other != partner[user] {
						with := slices.Clone(partner)
						with[user] = other
						out = append(out, with)
					}
				}
			}
		}
	}
	for n := 3; n <= 8; n++ {
		round := append(numbersUpTo(n)[1:], 0)
		out = append(out, round, append([]int{n - 1}, numbersUpTo(n-1)...))
	}
	for _, n := range []int{9, 10, 16, 64, 256, impl.MaxList} {
		out = append(out, numbersUpTo(n), turnedRound(numbersUpTo(n)), make([]int, n), slices.Repeat([]int{-1}, n))
	}
	return out
}

func TestP13NoMatchings(t *testing.T) {
	for _, partner := range wrongMatchings() {
		wantMatching(t, partner, false)
	}
	for _, n := range []int{impl.MaxList + 1, 2 * impl.MaxList} {
		wantMatching(t, numbersUpTo(n), false)
		wantMatching(t, turnedRound(numbersUpTo(n)), false)
	}
}

func otherPair(seed string, users ...byte) string {
	slices.Sort(users)
	return libraryHash([]byte("pair" + seed + string(users)))
}

// otherPlan asks of each pair once, and writes the drops to both.
func otherPlan(t *testing.T, seed string, round int, partner []int) []string {
	t.Helper()
	out := make([]string, 2*len(partner))
	for user, other := range partner {
		if other > user {
			continue
		}
		shared := otherPair(seed, byte(user), byte(other))
		first := otherDraw(t, shared, round, "drop", 8)
		second := first
		if other < user {
			second = otherDraw(t, libraryHash([]byte("second"+shared)), round, "drop", 8)
		}
		for _, one := range []int{user, other} {
			out[2*one], out[2*one+1] = first, second
		}
	}
	return out
}

func wantPlan(t *testing.T, seed string, round int, partner []int) []string {
	t.Helper()
	drops, code := impl.PlanDrops(seed, round, partner)
	if want := otherPlan(t, seed, round, partner); code != impl.OK || !slices.Equal(drops, want) {
		t.Errorf("PlanDrops of %x, %d, %v: %x, code %d; want %x", seed, round, partner, drops, code, want)
	}
	return drops
}

func wantNoPlan(t *testing.T, seed string, round int, partner []int, want int) {
	t.Helper()
	if drops, code := impl.PlanDrops(seed, round, partner); code != want || len(drops) != 0 {
		t.Errorf("PlanDrops of %d bytes, %d, %d users %s: %x, code %d; want nothing, code %d", len(seed), round, len(partner), told(partner), drops, code, want)
	}
}

func TestP13Plans(t *testing.T) {
	for n := range 9 {
		for _, partner := range matchingsOf(n) {
			wantPlan(t, shareOf(n), 4, partner)
		}
	}
	for _, partner := range [][]int{nil, {0}, {1, 0}, {0, 2, 1}, {7, 1, 3, 2, 5, 4, 6, 0}} {
		for _, seed := range someSeeds() {
			for _, round := range pairRounds() {
				wantPlan(t, seed, round, partner)
			}
		}
	}
}

// TestP13PlansByTheProgramsOwnDrops puts hashes and drops together as the program has them.
func TestP13PlansByTheProgramsOwnDrops(t *testing.T) {
	want, seed, round := must(t), someKey(), 70000
	for _, partner := range [][]int{{0, 1}, {1, 0, 2}, {2, 1, 0}, {3, 2, 1, 0, 4}} {
		drops := wantPlan(t, seed, round, partner)
		for user, other := range partner {
			lower, higher := byte(min(user, other)), byte(max(user, other))
			shared := impl.Hash([]byte("pair" + seed + string([]byte{lower, higher})))
			first := want(impl.DropId(shared, round))
			second := want(impl.DropId(impl.Hash([]byte("second"+shared)), round))
			if user == other {
				second = first
			}
			if drops[2*user] != first || drops[2*user+1] != second {
				t.Errorf("PlanDrops of %v: user %d has %x", partner, user, drops[2*user:2*user+2])
			}
		}
	}
}

// TestP13WhoTalksAndWhoIsIdle: both users of a pair have the same two drops, one that is idle one drop twice, and no
// other user has them.
func TestP13WhoTalksAndWhoIsIdle(t *testing.T) {
	for n := range 9 {
		for _, partner := range matchingsOf(n) {
			drops := wantPlan(t, someKey(), 9, partner)
			if len(drops) != 2*n {
				t.Fatalf("PlanDrops of %v: %d drops", partner, len(drops))
			}
			for user, other := range partner {
				own := drops[2*user : 2*user+2]
				if !slices.Equal(own, drops[2*other:2*other+2]) || (own[0] == own[1]) != (user == other) {
					t.Errorf("PlanDrops of %v: user %d has %x", partner, user, own)
				}
				for third := range partner {
					if third != user && third != other && (slices.Contains(own, drops[2*third]) || slices.Contains(own, drops[2*third+1])) {
						t.Errorf("PlanDrops of %v: users %d and %d share a drop", partner, user, third)
					}
				}
			}
		}
	}
}

// TestP13WhoeverTalksToWhom: as many drops are accessed twice as there are users, and none otherwise.
func TestP13WhoeverTalksToWhom(t *testing.T) {
	for n := range 9 {
		for _, partner := range matchingsOf(n) {
			for _, round := range []int{0, 1000000} {
				drops, code := impl.PlanDrops(shareOf(n), round, partner)
				if code != impl.OK {
					t.Fatal("PlanDrops", code)
				}
				wantHistogram(t, drops, impl.Histogram{Twos: n})
			}
		}
	}
}

// TestP13WhoTalksGetsTheOtherOnesBody: through the drops of a plan, in both accesses; one that is idle gets its own ones.
func TestP13WhoTalksGetsTheOtherOnesBody(t *testing.T) {
	for n := range 7 {
		for _, partner := range matchingsOf(n) {
			drops, _ := impl.PlanDrops(someKey(), 12, partner)
			var list []impl.Access
			for i, drop := range drops {
				list = append(list, impl.Access{Drop: drop, Body: fmt.Sprint("user ", i/2, ", access ", i%2)})
			}
			got, code := impl.ExchangeDrops(list)
			if code != impl.OK || len(got) != 2*n {
				t.Fatalf("ExchangeDrops: %q, code %d", got, code)
			}
			for user, other := range partner {
				want := []string{fmt.Sprint("user ", other, ", access 0"), fmt.Sprint("user ", other, ", access 1")}
				if user == other {
					slices.Reverse(want)
				}
				if !slices.Equal(got[2*user:2*user+2], want) {
					t.Errorf("%v: user %d gets %q", partner, user, got[2*user:2*user+2])
				}
			}
		}
	}
}

// TestP13DropsOfOthersDiffer: those of other pairs, rounds and seeds.
func TestP13DropsOfOthersDiffer(t *testing.T) {
	times := map[string]int{}
	for _, seed := range append(someSeeds(), flipped(someKey(), 0), flipped(someKey(), 255)) {
		for _, round := range []int{0, 1, 256, 1000000} {
			for higher := range 8 {
				for lower := range higher + 1 {
					partner := numbersUpTo(8)
					partner[lower], partner[higher] = higher, lower
					drops, _ := impl.PlanDrops(seed, round, partner)
					own := slices.Compact(slices.Clone(drops[2*lower : 2*lower+2]))
					for _, drop := range own {
						times[drop]++
					}
				}
			}
		}
	}
	if want := 6 * 4 * (8 + 2*28); len(times) != want {
		t.Errorf("%d different drops, want %d", len(times), want)
	}
}

func TestP13PlansOfNoMatchings(t *testing.T) {
	for _, partner := range wrongMatchings() {
		wantNoPlan(t, someKey(), 4, partner, impl.ErrBad)
		wantNoPlan(t, someKey(), -1, partner, impl.ErrBad)
	}
	for _, n := range []int{impl.MaxList + 1, 2 * impl.MaxList} {
		for _, seed := range []string{someKey(), "", someText(31)} {
			for _, round := range []int{-1, 0, 1000001} {
				wantNoPlan(t, seed, round, numbersUpTo(n), impl.ErrLong)
			}
		}
	}
}

// TestP13PlansOfWrongSeedsAndRounds: ErrRange comes behind ErrBad.
func TestP13PlansOfWrongSeedsAndRounds(t *testing.T) {
	for _, partner := range [][]int{nil, {0}, {1, 0, 2}, {1, 2, 0}, {8}} {
		for _, round := range append(wrongRounds(), pairRounds()...) {
			for _, seed := range wrongLengths() {
				wantNoPlan(t, seed, round, partner, impl.ErrBad)
			}
			for _, seed := range longTexts() {
				wantNoPlan(t, seed, round, partner, impl.ErrLong)
			}
		}
	}
	for _, partner := range [][]int{nil, {0}, {1, 0, 2}, numbersUpTo(8)} {
		for _, round := range wrongRounds() {
			wantNoPlan(t, someKey(), round, partner, impl.ErrRange)
		}
	}
}

// otherNoiseDrops makes all singles, then all pairs.
func otherNoiseDrops(t *testing.T, seed string, round int, plan impl.NoisePlan) []string {
	t.Helper()
	drop := func(k int) string {
		return otherDraw(t, libraryHash([]byte("noise"+seed+string([]byte{byte(k)}))), round, "drop", 8)
	}
	var out []string
	for k := range plan.Singles {
		out = append(out, drop(k))
	}
	for k := range plan.Pairs {
		out = append(out, slices.Repeat([]string{drop(plan.Singles + k)}, 2)...)
	}
	return out
}

func wantNoiseDrops(t *testing.T, seed string, round int, plan impl.NoisePlan) []string {
	t.Helper()
	drops, code := impl.NoiseDrops(seed, round, plan)
	if want := otherNoiseDrops(t, seed, round, plan); code != impl.OK || !slices.Equal(drops, want) {
		t.Errorf("NoiseDrops of %x, %d, %+v: %x, code %d; want %x", seed, round, plan, drops, code, want)
	}
	return drops
}

func wantNoNoiseDrops(t *testing.T, seed string, round int, plan impl.NoisePlan, want int) {
	t.Helper()
	if drops, code := impl.NoiseDrops(seed, round, plan); code != want || len(drops) != 0 {
		t.Errorf("NoiseDrops of %d bytes, %d, %+v: %x, code %d; want nothing, code %d", len(seed), round, plan, drops, code, want)
	}
}

// TestP13NoiseDrops takes every plan that there is.
func TestP13NoiseDrops(t *testing.T) {
	for singles := range 17 {
		for pairs := range 17 {
			drops := wantNoiseDrops(t, someKey(), 4, impl.NoisePlan{Singles: singles, Pairs: pairs})
			wantHistogram(t, drops, impl.Histogram{Ones: singles, Twos: pairs})
		}
	}
	for _, seed := range someSeeds() {
		for _, round := range pairRounds() {
			for _, plan := range []impl.NoisePlan{{}, {Singles: 1}, {Pairs: 1}, {Singles: 2, Pairs: 3}, {Singles: 16, Pairs: 16}} {
				wantNoiseDrops(t, seed, round, plan)
			}
		}
	}
}

// TestP13NoiseDropsByTheProgramsOwnDrops: the numbers go on from singles to pairs.
func TestP13NoiseDropsByTheProgramsOwnDrops(t *testing.T) {
	want, seed := must(t), someKey()
	drops := wantNoiseDrops(t, seed, 3, impl.NoisePlan{Singles: 2, Pairs: 2})
	for at, k := range []byte{0, 1, 2, 2, 3, 3} {
		if len(drops) != 6 || drops[at] != want(impl.DropId(impl.Hash([]byte("noise"+seed+string([]byte{k}))), 3)) {
			t.Errorf("NoiseDrops: %x", drops)
		}
	}
}

// TestP13NoiseBesideUsers: with the drops of a plan all are seen, and hang on the number of users and on noise alone.
func TestP13NoiseBesideUsers(t *testing.T) {
	for n := range 9 {
		for _, partner := range matchingsOf(n) {
			drops, _ := impl.PlanDrops(someKey(), 5, partner)
			for _, plan := range []impl.NoisePlan{{}, {Singles: 3, Pairs: 2}, {Singles: 16, Pairs: 16}} {
				noise, _ := impl.NoiseDrops(someKey(), 5, plan)
				wantHistogram(t, append(noise, drops...), impl.Histogram{Ones: plan.Singles, Twos: n + plan.Pairs})
			}
		}
	}
}

func wrongPlans() []impl.NoisePlan {
	out := []impl.NoisePlan{{Singles: -1, Pairs: 17}, {Singles: math.MaxInt, Pairs: math.MaxInt}, {Singles: math.MinInt, Pairs: math.MaxInt}, {Singles: math.MinInt, Pairs: math.MinInt}}
	for _, wrong := range append(farNumbers(), -1, -16, 17, 18, 32, 33, 64, 256) {
		for _, right := range []int{0, 1, 16} {
			out = append(out, impl.NoisePlan{Singles: wrong, Pairs: right}, impl.NoisePlan{Singles: right, Pairs: wrong})
		}
	}
	return out
}

func TestP13NoiseDropsOfWrongPlans(t *testing.T) {
	for _, plan := range wrongPlans() {
		for _, round := range []int{-1, 0, 4, 1000000, 1000001} {
			wantNoNoiseDrops(t, someKey(), round, plan, impl.ErrRange)
			wantNoNoiseDrops(t, someText(31), round, plan, impl.ErrBad)
			wantNoNoiseDrops(t, someText(impl.MaxText+1), round, plan, impl.ErrLong)
		}
	}
}

func TestP13NoiseDropsOfWrongSeedsAndRounds(t *testing.T) {
	for _, plan := range []impl.NoisePlan{{}, {Singles: 1, Pairs: 1}, {Singles: 16, Pairs: 16}, {Singles: 17}, {Pairs: -1}} {
		for _, round := range append(wrongRounds(), pairRounds()...) {
			for _, seed := range wrongLengths() {
				wantNoNoiseDrops(t, seed, round, plan, impl.ErrBad)
			}
			for _, seed := range longTexts() {
				wantNoNoiseDrops(t, seed, round, plan, impl.ErrLong)
			}
		}
		for _, round := range wrongRounds() {
			wantNoNoiseDrops(t, someKey(), round, plan, impl.ErrRange)
		}
	}
}
