package tests

import (
	"fmt"
	"slices"
	"testing"

	"loop.example/g00254/impl"
)

func TestP15NoiseAndRoundsOfWrongRounds(t *testing.T) {
	for name, r := range wrongRoundSpecs() {
		plan, code := impl.RoundNoise(r)
		if code != impl.ErrBad || plan != (impl.NoisePlan{}) {
			t.Errorf("RoundNoise, %s, %s: %+v, code %d", name, roundTold(r), plan, code)
		}
		wantNoRound(t, r)
		for _, user := range []int{-1, 0, 1, 4} {
			for which := -1; which <= 2; which++ {
				wantNoUserOnion(t, r, user, which, impl.ErrBad)
			}
		}
	}
}

// wrongRoundSpecs have one fault each.
func wrongRoundSpecs() map[string]impl.RoundSpec {
	out := map[string]impl.RoundSpec{}
	for _, x := range roundChanges() {
		if !x.right {
			r := roundOf(2, 1, 1, 0, 2)
			x.change(&r)
			out[x.name] = r
		}
	}
	return out
}

type roundChange struct {
	name   string
	change func(r *impl.RoundSpec)
	right  bool
}

func userChanges() []roundChange {
	var out []roundChange
	for users := range 7 {
		out = append(out, roundChange{fmt.Sprint(users, " users"), func(r *impl.RoundSpec) { r.Partner, r.Bodies = numbersUpTo(users), make([]string, users) }, users <= 4})
	}
	for count := range 6 {
		out = append(out, roundChange{fmt.Sprint(count, " bodies"), func(r *impl.RoundSpec) { r.Bodies = make([]string, count) }, count == 3})
	}
	for _, partner := range [][]int{{1, 0, 2}, {2, 1, 0}, {0, 2, 1}, {0, 1, 2}, {1, 2, 0}, {1, 1, 2}, {0, 0, 2}, {1, 0, 3}, {1, 0, -1}, {3, 1, 2}} {
		out = append(out, roundChange{fmt.Sprint("partners ", partner), func(r *impl.RoundSpec) { r.Partner = partner }, isMatching(partner)})
	}
	for _, size := range []int{0, 1, 19, 20, 21, 40, 41, 255, 256, impl.MaxText, impl.MaxText + 1} {
		for at := range 3 {
			out = append(out, roundChange{fmt.Sprint(size, " bytes of user ", at), func(r *impl.RoundSpec) {
				r.Bodies = slices.Clone(roundBodies(3))
				r.Bodies[at] = someText(size)
			}, size <= 20})
		}
	}
	return append(out, roundChange{"many partners", func(r *impl.RoundSpec) { r.Partner = numbersUpTo(impl.MaxList + 1) }, false},
		roundChange{"many users", func(r *impl.RoundSpec) {
			r.Partner, r.Bodies = numbersUpTo(impl.MaxList+1), make([]string, impl.MaxList+1)
		}, false}, roundChange{"a pair of 8", func(r *impl.RoundSpec) { r.Partner, r.Bodies = turnedRound(numbersUpTo(8)), make([]string, 8) }, false},
		roundChange{"many bodies", func(r *impl.RoundSpec) { r.Bodies = make([]string, impl.MaxList+1) }, false})
}

// numberChanges put right and wrong numbers into a place of a round.
func numberChanges(name string, right []int, wrong []int, put func(r *impl.RoundSpec, n int)) []roundChange {
	var out []roundChange
	for i, n := range slices.Concat(right, wrong, farNumbers()) {
		if i < len(right) || !slices.Contains(right, n) {
			out = append(out, roundChange{fmt.Sprint(name, " ", n), func(r *impl.RoundSpec) { put(r, n) }, i < len(right)})
		}
	}
	return out
}

// roundChanges are of a right round of two layers and three users, one part each, at both its ends and beyond.
func roundChanges() []roundChange {
	out := userChanges()
	for _, size := range []int{0, 1, 31, 32, 33, 64, impl.MaxText, impl.MaxText + 1} {
		out = append(out, roundChange{fmt.Sprint("seed of ", size), func(r *impl.RoundSpec) { r.Seed = someText(size) }, size == 32})
	}
	out = append(out, numberChanges("round", pairRounds(), []int{-1, 1000001}, func(r *impl.RoundSpec, n int) { r.Round = n })...)
	out = append(out, numberChanges("layers", []int{1, 2}, []int{-1, 0, 3, 4}, func(r *impl.RoundSpec, n int) { r.Layers = n })...)
	out = append(out, numberChanges("mean", []int{0, 1}, []int{-1, 2, 8, 9}, func(r *impl.RoundSpec, n int) { r.Mean = n })...)
	out = append(out, numberChanges("cut", []int{-1, 0, 1}, []int{-3, 2, 3}, func(r *impl.RoundSpec, n int) { r.Cut = n })...)
	out = append(out, numberChanges("cut of one layer", []int{-1, 0}, []int{-3, 1, 2}, func(r *impl.RoundSpec, n int) { r.Cut, r.Layers = n, 1 })...)
	out = append(out, numberChanges("place", numbersUpTo(17), []int{-1, 17, 18, 64}, func(r *impl.RoundSpec, n int) { r.CutAt = n })...)
	out = append(out, numberChanges("place that is cut", numbersUpTo(17), []int{-1, 17}, func(r *impl.RoundSpec, n int) { r.CutAt, r.Cut = n, 1 })...)
	for _, of := range edgeRatios() {
		out = append(out, roundChange{fmt.Sprint("ratio ", of), func(r *impl.RoundSpec) { r.A, r.B = of.a, of.b }, of.right()})
	}
	return out
}

func TestP15RightAndWrongRounds(t *testing.T) {
	right := 0
	for _, x := range roundChanges() {
		r := roundOf(2, 1, 1, 0, 2)
		if !impl.RoundOK(r) {
			t.Fatal("RoundOK", roundTold(r))
		}
		x.change(&r)
		if got := impl.RoundOK(r); got != x.right {
			t.Errorf("RoundOK, %s, %s: %v", x.name, roundTold(r), got)
		}
		if x.right {
			right++
		}
	}
	if right < 50 {
		t.Errorf("%d changes are right", right)
	}
}

func TestP15RoundsOfAllPartners(t *testing.T) {
	for users := range 5 {
		eachNumbers(users+2, users, func(numbers []int) {
			r := roundOf(1, 0, make([]int, users)...)
			for user, n := range numbers {
				r.Partner[user] = n - 1
			}
			if impl.RoundOK(r) != isMatching(r.Partner) {
				t.Errorf("RoundOK, %s: %v", roundTold(r), impl.RoundOK(r))
			}
		})
	}
	if impl.RoundOK(impl.RoundSpec{}) {
		t.Error("RoundOK of nothing")
	}
}
