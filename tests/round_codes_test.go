package tests

import (
	"fmt"
	"math"
	"slices"
	"strings"
	"testing"

	"loop.example/g00254/impl"
)

// roundArgs are what the functions of the chapter are handed, each of them some: which is an access, or a layer.
type roundArgs struct {
	r           impl.RoundSpec
	user, which int
	seed        string
}

func (a roundArgs) String() string {
	return fmt.Sprintf("%s, user %d, access or layer %d, seed of %d bytes", roundTold(a.r), a.user, a.which, len(a.seed))
}

// rightRound counts what is right of the parts of a round.
func rightRound(r impl.RoundSpec) bool {
	right := 0
	for _, part := range []bool{
		len(r.Seed) == 32, within(r.Round, 1000000), r.Layers == 1 || r.Layers == 2, len(r.Partner) < 5, isMatching(r.Partner),
		len(r.Bodies) == len(r.Partner), len(longestOf(r.Bodies)) < 21, r.Mean == 0 || r.Mean == 1, ratio{r.A, r.B}.right(),
		r.Cut == -1 || r.Cut == 0 || r.Cut == 1 && r.Layers == 2, within(r.CutAt, 16),
	} {
		if part {
			right++
		}
	}
	return right == 11
}

func longestOf(texts []string) string {
	longest := ""
	for _, text := range texts {
		if len(text) > len(longest) {
			longest = text
		}
	}
	return longest
}

// roundCall tells an answer as a text, the empty one of a zero answer; its faults stand as the chapter names them.
type roundCall struct {
	name   string
	call   func(a roundArgs) (string, int)
	faults func(a roundArgs) []fault
}

func roundOKCall() roundCall {
	return roundCall{"RoundOK", func(a roundArgs) (string, int) {
		ok := impl.RoundOK(a.r)
		if ok == rightRound(a.r) {
			return "", impl.OK
		}
		return fmt.Sprint(ok), -1
	}, func(a roundArgs) []fault { return nil }}
}

func serverSecretCall() roundCall {
	return roundCall{"ServerSecret", func(a roundArgs) (string, int) { return impl.ServerSecret(a.seed, a.which) }, func(a roundArgs) []fault {
		return []fault{{len(a.seed) > 65536, impl.ErrLong}, {len(a.seed) != 32, impl.ErrBad}, {!within(a.which, 3), impl.ErrRange}}
	}}
}

func userOnionCall() roundCall {
	return roundCall{"UserOnion", func(a roundArgs) (string, int) {
		b, code := impl.UserOnion(a.r, a.user, a.which)
		return string(b), code
	}, func(a roundArgs) []fault {
		return []fault{{!rightRound(a.r), impl.ErrBad}, {!within(a.user, len(a.r.Partner)-1) || !within(a.which, 1), impl.ErrRange}}
	}}
}

func roundNoiseCall() roundCall {
	return roundCall{"RoundNoise", func(a roundArgs) (string, int) {
		plan, code := impl.RoundNoise(a.r)
		return toldUnlessZero(plan == impl.NoisePlan{}, plan), code
	}, func(a roundArgs) []fault { return []fault{{!rightRound(a.r), impl.ErrBad}} }}
}

func runRoundCall() roundCall {
	return roundCall{"RunRound", func(a roundArgs) (string, int) {
		x, code := impl.RunRound(a.r)
		return toldUnlessZero(sameRound(x, impl.RoundOut{}), x), code
	}, func(a roundArgs) []fault { return []fault{{!rightRound(a.r), impl.ErrBad}} }}
}

func roundCalls() []roundCall {
	return []roundCall{roundOKCall(), serverSecretCall(), userOnionCall(), roundNoiseCall(), runRoundCall()}
}

func wantRoundCode(t *testing.T, f roundCall, a roundArgs) {
	t.Helper()
	want := firstFault(f.faults(a))
	got, code := f.call(a)
	if code != want || code != impl.OK && got != "" {
		t.Errorf("%s of %s: %.200q, code %d; want code %d", f.name, a, got, code, want)
	}
}

// codeRoundSpecs have up to two faults each: all changes of one part, and each of some ahead of each of some others.
func codeRoundSpecs() []impl.RoundSpec {
	var out []impl.RoundSpec
	changes := roundChanges()
	for i, x := range changes {
		r := roundOf(2, 1, 1, 0, 2)
		x.change(&r)
		out = append(out, r)
		for k := i % 37; k < len(changes); k += 37 {
			both := r
			changes[k].change(&both)
			out = append(out, both)
		}
	}
	return out
}

// TestP1RoundCodes holds each code against the first fault that the chapter names. Whole rounds that are right are left to
// the tests of rounds: there are too many of them here.
func TestP1RoundCodes(t *testing.T) {
	t.Parallel()
	besideEachOther(codeRoundSpecs(), func(r impl.RoundSpec) {
		for _, user := range []int{-1, 0, 2, 3} {
			a := roundArgs{r: r, user: user, which: (user + len(r.Partner)) % 4}
			wantRoundCode(t, roundOKCall(), a)
			wantRoundCode(t, roundNoiseCall(), a)
			if !rightRound(r) {
				wantRoundCode(t, runRoundCall(), a)
				wantRoundCode(t, userOnionCall(), a)
			}
		}
	})
	for _, seed := range codeTexts() {
		for _, layer := range append(farNumbers(), -1, 0, 1, 2, 3, 4, 5, 255, 256) {
			wantRoundCode(t, serverSecretCall(), roundArgs{seed: seed, which: layer})
		}
	}
}

func TestP1UserOnionCodes(t *testing.T) {
	t.Parallel()
	numbers := []int{math.MinInt, -1, 0, 1, 2, 3, 4, 5, math.MaxInt}
	specs := []impl.RoundSpec{{}, roundOf(1, 0), roundOf(1, 0, 0), roundOf(2, 1, 1, 0, 2), roundOf(2, 1, 3, 2, 1, 0), roundOf(3, 1, 0), roundOf(2, 2, 1, 0)}
	for _, r := range specs {
		for _, user := range numbers {
			for _, which := range numbers {
				wantRoundCode(t, userOnionCall(), roundArgs{r: r, user: user, which: which})
			}
		}
	}
}

// someRoundArgs are right for each call; of the noise and the accesses some is cut.
func someRoundArgs() roundArgs {
	r := roundOf(2, 1, 1, 0, 2)
	r.Cut, r.CutAt = 1, 3
	return roundArgs{r: r, user: 1, which: 1, seed: someKey()}
}

// own has lists that may be written into.
func (a roundArgs) own() roundArgs {
	a.r.Partner, a.r.Bodies = slices.Clone(a.r.Partner), slices.Clone(a.r.Bodies)
	return a
}

// TestP1RoundsAtBothEndsOfInt puts the least and the greatest int into each place and into two together.
func TestP1RoundsAtBothEndsOfInt(t *testing.T) {
	t.Parallel()
	ends := []int{math.MinInt, math.MinInt + 1, math.MinInt / 2, math.MaxInt / 2, math.MaxInt/2 + 1, math.MaxInt - 1, math.MaxInt}
	places := []func(a *roundArgs, n int){
		func(a *roundArgs, n int) { a.r.Round = n }, func(a *roundArgs, n int) { a.r.Layers = n }, func(a *roundArgs, n int) { a.r.Partner[0] = n },
		func(a *roundArgs, n int) { a.r.Partner[2] = n }, func(a *roundArgs, n int) { a.r.Mean = n }, func(a *roundArgs, n int) { a.r.A = n },
		func(a *roundArgs, n int) { a.r.B = n }, func(a *roundArgs, n int) { a.r.Cut = n }, func(a *roundArgs, n int) { a.r.CutAt = n },
		func(a *roundArgs, n int) { a.user = n }, func(a *roundArgs, n int) { a.which = n },
	}
	for _, f := range []roundCall{roundOKCall(), serverSecretCall(), userOnionCall(), roundNoiseCall()} {
		wantRoundCode(t, f, someRoundArgs())
		for _, end := range ends {
			for i, put := range places {
				for _, putOther := range places[i:] {
					for _, other := range ends {
						a := someRoundArgs().own()
						putOther(&a, other)
						put(&a, end)
						wantRoundCode(t, f, a)
					}
				}
			}
		}
	}
	for _, end := range ends {
		for _, put := range places[:9] {
			a := someRoundArgs().own()
			put(&a, end)
			wantRoundCode(t, runRoundCall(), a)
		}
	}
}

// TestP1TextsWithinARound: what lies within a round is bounded by its rule alone, so that nothing of it is ErrLong.
func TestP1TextsWithinARound(t *testing.T) {
	long := strings.Repeat("a", impl.MaxText+1)
	for _, change := range []func(a *roundArgs){
		func(a *roundArgs) { a.r.Seed = long },
		func(a *roundArgs) { a.r.Bodies[1] = long },
		func(a *roundArgs) { a.r.Partner = numbersUpTo(impl.MaxList + 1) },
		func(a *roundArgs) { a.r.Bodies = make([]string, impl.MaxList+1) },
		func(a *roundArgs) {
			a.r.Partner, a.r.Bodies = numbersUpTo(impl.MaxList+1), make([]string, impl.MaxList+1)
		},
	} {
		a := someRoundArgs().own()
		change(&a)
		for _, f := range []roundCall{userOnionCall(), roundNoiseCall(), runRoundCall()} {
			for _, user := range []int{-1, 1, 9} {
				a.user = user
				if got, code := f.call(a); code != impl.ErrBad || got != "" {
					t.Errorf("%s of %s: %.100q, code %d", f.name, a, got, code)
				}
			}
		}
	}
}

// manyRoundArgs are right and wrong ones.
func manyRoundArgs() []roundArgs {
	some := someRoundArgs()
	out := []roundArgs{{}, some}
	for i, partner := range [][]int{nil, {0}, {1, 0}, {0, 2, 1}, {3, 2, 1, 0}, {1, 2, 0}, {0, 1, 2, 3, 4}} {
		with := some
		with.r.Partner, with.r.Bodies, with.r.Layers, with.r.CutAt = partner, make([]string, len(partner)), 1+i%2, 2*i
		with.r.Cut, with.seed, with.which = i%2, codeTexts()[i%6], i%3
		out = append(out, with)
	}
	for i, x := range roundChanges() {
		if !x.right && i%5 == 0 {
			with := some.own()
			x.change(&with.r)
			out = append(out, with)
		}
	}
	return out
}

// guardedIn has the lists of a round in the middle of others whose other elements no call has to do with.
func (a roundArgs) guardedIn() (inside roundArgs, partner []int, bodies []string) {
	inside = a
	inside.r.Partner, partner = guardedNumbers(a.r.Partner)
	inside.r.Bodies, bodies = guardedItems(a.r.Bodies)
	return inside, partner, bodies
}

// tight has lists without any room behind.
func (a roundArgs) tight() roundArgs {
	a.r.Partner, a.r.Bodies = slices.Clip(slices.Clone(a.r.Partner)), slices.Clip(slices.Clone(a.r.Bodies))
	return a
}

func TestP1RoundsAreNotWrittenIntoNorReadBehind(t *testing.T) {
	t.Parallel()
	for _, a := range manyRoundArgs() {
		for _, f := range roundCalls() {
			inside, partner, bodies := a.guardedIn()
			got, code := f.call(inside)
			if _, wantPartner, wantBodies := a.guardedIn(); !slices.Equal(partner, wantPartner) || !slices.Equal(bodies, wantBodies) {
				t.Errorf("%s of %s wrote into its lists, or around them", f.name, a)
			}
			if want, wanted := f.call(a.tight()); got != want || code != wanted {
				t.Errorf("%s of %s has another answer with others behind", f.name, a)
			}
		}
	}
}

// TestP1AnsweredInboxesAreNewMemory spoils one answer and looks at the arguments and at another answer.
func TestP1AnsweredInboxesAreNewMemory(t *testing.T) {
	t.Parallel()
	r := withPlan(t, roundOf(2, 1, 1, 0, 2), impl.NoisePlan{Singles: 2, Pairs: 2})
	for r.Cut = -1; r.Cut < 2; r.Cut++ {
		for _, r.CutAt = range []int{0, 4, 9, 16} {
			a := roundArgs{r: r}
			want := otherRound(t, r)
			inside, partner, bodies := a.guardedIn()
			first, _ := impl.RunRound(inside.r)
			second, code := impl.RunRound(inside.r)
			spoilTexts(first.Inbox)
			if _, wantPartner, wantBodies := a.guardedIn(); !slices.Equal(partner, wantPartner) || !slices.Equal(bodies, wantBodies) {
				t.Error("RunRound answers in the memory of an argument")
			}
			spoilTexts(inside.r.Bodies)
			spoilNumbers(inside.r.Partner)
			if code != impl.OK || !sameRound(second, want) {
				t.Errorf("RunRound, %s, hangs on the memory of another answer or of an argument: %+v, code %d", roundTold(r), second, code)
			}
		}
	}
}

func TestP1AnsweredOnionsAreNewMemory(t *testing.T) {
	t.Parallel()
	for layers := 1; layers <= 2; layers++ {
		a := roundArgs{r: roundOf(layers, 0, 1, 0, 2)}
		want := otherUserOnion(t, a.r, 0, 0)
		inside, partner, bodies := a.guardedIn()
		first, _ := impl.UserOnion(inside.r, 0, 0)
		second, code := impl.UserOnion(inside.r, 0, 0)
		overwrite(first)
		if _, wantPartner, wantBodies := a.guardedIn(); !slices.Equal(partner, wantPartner) || !slices.Equal(bodies, wantBodies) {
			t.Error("UserOnion answers in the memory of an argument")
		}
		spoilTexts(inside.r.Bodies)
		spoilNumbers(inside.r.Partner)
		if code != impl.OK || string(second) != want {
			t.Errorf("UserOnion of %d layers hangs on the memory of another answer or of an argument, code %d", layers, code)
		}
	}
}

// TestP1AnsweredTextsOfRoundsAreNewMemory: what is read is a text of its own, and not the one that was said.
func TestP1AnsweredTextsOfRoundsAreNewMemory(t *testing.T) {
	t.Parallel()
	r := roundOf(2, 0, 1, 0, 3, 2)
	r.Bodies = slices.Repeat([]string{"all say the same"}, 4)
	x := wantAllRead(t, r)
	for i, body := range x.Inbox {
		for _, other := range slices.Concat(r.Bodies, x.Inbox[:i]) {
			if sharesText(body, other) {
				t.Errorf("user %d reads %q in the memory of another text", i, body)
			}
		}
	}
	first, _ := impl.ServerSecret(r.Seed, 0)
	second, code := impl.ServerSecret(r.Seed, 0)
	if code != impl.OK || sharesText(first, second) || sharesText(first, r.Seed) {
		t.Error("ServerSecret shares its memory, code", code)
	}
}

func TestP1RoundsOfNilAndEmpty(t *testing.T) {
	t.Parallel()
	for _, a := range manyRoundArgs() {
		for _, f := range roundCalls() {
			for lists := range 3 {
				with := a
				put := func(partner []int, bodies []string) {
					if lists != 1 {
						with.r.Partner = partner
					}
					if lists != 2 {
						with.r.Bodies = bodies
					}
				}
				put(nil, nil)
				want, wanted := f.call(with)
				for _, room := range []int{0, 70} {
					put(make([]int, 0, room), make([]string, 0, room))
					if got, code := f.call(with); got != want || code != wanted {
						t.Errorf("%s of %s: nil and an empty list differ", f.name, with)
					}
				}
			}
		}
	}
}

// roundAnswers tells what all functions of the chapter answer, in one order or the other; a call is known by the place of
// its arguments, for their texts would be long.
func roundAnswers() func(backwards bool) map[string]string {
	args := manyRoundArgs()
	return func(backwards bool) map[string]string {
		out := map[string]string{}
		for i := range args {
			if backwards {
				i = len(args) - 1 - i
			}
			for _, f := range roundCalls() {
				out[fmt.Sprint(f.name, " of ", i)] = fmt.Sprintln(f.call(args[i]))
			}
		}
		return out
	}
}

func TestP1RoundsAlikeArgumentsAlikeAnswers(t *testing.T) {
	t.Parallel()
	wantAlike(t, roundAnswers())
}

func TestP1RoundCallsBesideEachOther(t *testing.T) {
	t.Parallel()
	wantAlikeBeside(t, roundAnswers())
}

// TestP1RoundsHangOnNothingAhead: a round that was aborted, or in which others talked, changes nothing of the next one.
func TestP1RoundsHangOnNothingAhead(t *testing.T) {
	t.Parallel()
	r := withPlan(t, roundOf(2, 1, 1, 0), impl.NoisePlan{Singles: 1, Pairs: 1})
	want := wantAllRead(t, r)
	for cut := range 2 {
		for at := range 7 {
			ahead := r
			ahead.Cut, ahead.CutAt = cut, at
			impl.RunRound(ahead)
			if x, code := impl.RunRound(r); code != impl.OK || !sameRound(x, want) {
				t.Errorf("RunRound behind a cut at %d of %d: %+v, code %d", at, cut, x, code)
			}
		}
	}
}
