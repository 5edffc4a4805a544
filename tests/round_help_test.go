package tests

import (
	"encoding/binary"
	"fmt"
	"slices"
	"sync"
	"testing"

	"loop.example/g00254/impl"
)

// roundBodies are of each user another one, and of another length.
func roundBodies(users int) []string {
	return []string{"to you", "and back again", "a", "twenty bytes of text"}[:users]
}

// roundOf has nothing cut, and no noise if the mean is nought.
func roundOf(layers, mean int, partner ...int) impl.RoundSpec {
	return impl.RoundSpec{
		Seed: shareOf(14), Round: 9, Layers: layers, Partner: partner, Bodies: roundBodies(len(partner)), Mean: mean, A: 1, B: 2, Cut: -1,
	}
}

// withPlan looks for the first round of this seed that has such noise; of 1 to 2 each of 3 numbers comes as often.
func withPlan(t *testing.T, r impl.RoundSpec, plan impl.NoisePlan) impl.RoundSpec {
	t.Helper()
	for r.Round = range 1000 {
		if otherRoundNoise(r) == plan {
			return r
		}
	}
	t.Fatal("no round has the noise", plan)
	return r
}

func roundPlans() []impl.NoisePlan {
	var out []impl.NoisePlan
	for singles := range 3 {
		for pairs := range 3 {
			out = append(out, impl.NoisePlan{Singles: singles, Pairs: pairs})
		}
	}
	return out
}

// eachMatching goes through all matchings of 0 to 4 users.
func eachMatching(do func(partner []int)) {
	for users := range 5 {
		for _, partner := range matchingsOf(users) {
			do(partner)
		}
	}
}

// besideEachOther runs what takes long on all cores.
func besideEachOther[T any](list []T, do func(T)) {
	var group sync.WaitGroup
	for part := range slices.Chunk(list, len(list)/16+1) {
		group.Go(func() {
			for _, x := range part {
				do(x)
			}
		})
	}
	group.Wait()
}

func otherRoundSeed(r impl.RoundSpec, word string, first, second int) string {
	b := binary.BigEndian.AppendUint32([]byte(word+r.Seed), uint32(r.Round))
	return libraryHash(append(b, byte(first), byte(second)))
}

func otherRoundNoise(r impl.RoundSpec) impl.NoisePlan {
	words := otherWords(otherRoundSeed(r, "amount", 0, 0), 400)
	var counts [4]int
	for i := range counts {
		count, taken, code := otherCount(words, ratio{r.A, r.B})
		if code != impl.OK {
			return impl.NoisePlan{}
		}
		counts[i], words = count, words[taken:]
	}
	return impl.NoisePlan{Singles: heldWithin(r.Mean+counts[0]-counts[1], r.Mean), Pairs: heldWithin(r.Mean+counts[2]-counts[3], r.Mean)}
}

// parcel is what goes through a round, known by its sender alone: nothing is sealed and nothing is opened on the other way.
type parcel struct {
	noise  bool
	number int
	drop   string
}

func firstOf(user int, drop string) parcel { return parcel{number: 2 * user, drop: drop} }

func parcelsOf(t *testing.T, r impl.RoundSpec) []parcel {
	t.Helper()
	var out []parcel
	for number, drop := range otherPlan(t, r.Seed, r.Round, r.Partner) {
		out = append(out, parcel{number: number, drop: drop})
	}
	for number, drop := range otherNoiseDrops(t, r.Seed, r.Round, otherRoundNoise(r)) {
		out = append(out, parcel{noise: true, number: number, drop: drop})
	}
	return out
}

// otherWay is what comes to the end, and what is cut on the way.
func otherWay(t *testing.T, r impl.RoundSpec) (end, cut []parcel) {
	t.Helper()
	end = parcelsOf(t, r)
	for layer := range r.Layers {
		if len(end) == 0 {
			continue
		}
		order, _, code := otherShuffle(otherWords(otherRoundSeed(r, "mix", layer, 0), 400), len(end))
		if code != impl.OK {
			t.Fatal("a shuffle of 400 words", code)
		}
		var mixed []parcel
		for place, number := range order {
			if layer == r.Cut && place == r.CutAt {
				cut = append(cut, end[number])
			} else {
				mixed = append(mixed, end[number])
			}
		}
		end = mixed
	}
	return end, cut
}

// otherRound blames whoever cut noise: it looks at no forms.
func otherRound(t *testing.T, r impl.RoundSpec) impl.RoundOut {
	t.Helper()
	out := impl.RoundOut{Inbox: make([]string, len(r.Partner)), Blamed: -1, Noise: otherRoundNoise(r)}
	end, cut := otherWay(t, r)
	if len(cut) == 1 && cut[0].noise {
		out.Aborted, out.Blamed = true, r.Cut
		return out
	}
	var drops []string
	for _, p := range end {
		drops = append(drops, p.drop)
	}
	out.Seen = otherHistogram(drops)
	plan := otherPlan(t, r.Seed, r.Round, r.Partner)
	for user, other := range r.Partner {
		met := slices.Contains(end, firstOf(user, plan[2*user])) && slices.Contains(end, firstOf(other, plan[2*other]))
		if user != other && met {
			out.Inbox[user] = r.Bodies[other]
		}
	}
	return out
}

func sameRound(x, y impl.RoundOut) bool {
	return x.Seen == y.Seen && slices.Equal(x.Inbox, y.Inbox) && x.Aborted == y.Aborted && x.Blamed == y.Blamed && x.Noise == y.Noise
}

func roundTold(r impl.RoundSpec) string {
	return fmt.Sprintf("seed of %d bytes, round %d, %d layers, %d partners %s, %d bodies %s, mean %d, %d to %d, cut %d at %d",
		len(r.Seed), r.Round, r.Layers, len(r.Partner), told(r.Partner), len(r.Bodies), told(r.Bodies), r.Mean, r.A, r.B, r.Cut, r.CutAt)
}

func wantRound(t *testing.T, r impl.RoundSpec) impl.RoundOut {
	t.Helper()
	x, code := impl.RunRound(r)
	if want := otherRound(t, r); code != impl.OK || !sameRound(x, want) {
		t.Errorf("RunRound, %s: %+v, code %d; want %+v", roundTold(r), x, code, want)
	}
	return x
}

func wantNoRound(t *testing.T, r impl.RoundSpec) {
	t.Helper()
	if x, code := impl.RunRound(r); code != impl.ErrBad || !sameRound(x, impl.RoundOut{}) {
		t.Errorf("RunRound, %s: %+v, code %d; want nothing, ErrBad", roundTold(r), x, code)
	}
}
