package tests

import (
	"fmt"
	"math"
	"slices"
	"testing"

	"loop.example/g00254/impl"
)

// dropArgs are what the functions of the chapter are handed, each of them some: n is a round, or how many shares.
type dropArgs struct {
	drops     []string
	list      []impl.Access
	key, seed string
	n         int
	shares    []string
	partner   []int
	plan      impl.NoisePlan
}

func (a dropArgs) String() string {
	return fmt.Sprintf("%d drops, %d accesses, key of %d bytes, seed of %d, n %d, %d shares, %d partners %s, %+v",
		len(a.drops), len(a.list), len(a.key), len(a.seed), a.n, len(a.shares), len(a.partner), told(a.partner), a.plan)
}

// dropCall tells an answer as a text, the empty one of a zero answer; its faults stand as the chapter names them.
type dropCall struct {
	name   string
	call   func(a dropArgs) (string, int)
	faults func(a dropArgs) []fault
}

func textsToldUnlessNone(list []string) string { return toldUnlessZero(len(list) == 0, list) }

func meetingCalls() []dropCall {
	return []dropCall{
		{"AccessHistogram", func(a dropArgs) (string, int) {
			h, code := impl.AccessHistogram(a.drops)
			return toldUnlessZero(h == impl.Histogram{}, h), code
		}, func(a dropArgs) []fault {
			wrong := slices.ContainsFunc(a.drops, func(drop string) bool { return len(drop) != 8 })
			return []fault{{len(a.drops) > 4096, impl.ErrLong}, {len(a.drops) > 64 || wrong, impl.ErrBad}}
		}},
		{"ExchangeDrops", func(a dropArgs) (string, int) {
			got, code := impl.ExchangeDrops(a.list)
			return textsToldUnlessNone(got), code
		}, func(a dropArgs) []fault {
			wrong := slices.ContainsFunc(a.list, func(x impl.Access) bool { return len(x.Drop) != 8 || len(x.Body) > 400 })
			return []fault{{len(a.list) > 4096, impl.ErrLong}, {len(a.list) > 64 || wrong, impl.ErrBad}}
		}},
	}
}

func shareCalls() []dropCall {
	return []dropCall{
		{"SplitKey", func(a dropArgs) (string, int) {
			shares, code := impl.SplitKey(a.key, a.n, a.seed)
			return textsToldUnlessNone(shares), code
		}, func(a dropArgs) []fault {
			return []fault{
				{max(len(a.key), len(a.seed)) > 65536, impl.ErrLong}, {len(a.key) != 32 || len(a.seed) != 32, impl.ErrBad},
				{a.n < 1 || a.n > 16, impl.ErrRange},
			}
		}},
		{"JoinKey", func(a dropArgs) (string, int) { return impl.JoinKey(a.shares) }, func(a dropArgs) []fault {
			wrong := slices.ContainsFunc(a.shares, func(share string) bool { return len(share) != 32 })
			return []fault{{len(a.shares) > 4096, impl.ErrLong}, {len(a.shares) < 1 || len(a.shares) > 16, impl.ErrRange}, {wrong, impl.ErrBad}}
		}},
	}
}

// isMatching counts in how many pairs, of one or of two, a user is.
func isMatching(partner []int) bool {
	if len(partner) > 8 {
		return false
	}
	pairs := 0
	for user := range partner {
		for other := range partner {
			if partner[user] == other && partner[other] == user {
				pairs++
			}
		}
	}
	return pairs == len(partner)
}

func planCalls() []dropCall {
	return []dropCall{
		{"MatchingOK", func(a dropArgs) (string, int) {
			ok := impl.MatchingOK(a.partner)
			if ok == isMatching(a.partner) {
				return "", impl.OK
			}
			return fmt.Sprint(ok), -1
		}, func(a dropArgs) []fault { return nil }},
		{"PlanDrops", func(a dropArgs) (string, int) {
			drops, code := impl.PlanDrops(a.seed, a.n, a.partner)
			return textsToldUnlessNone(drops), code
		}, func(a dropArgs) []fault {
			return []fault{
				{len(a.seed) > 65536 || len(a.partner) > 4096, impl.ErrLong}, {len(a.seed) != 32 || !isMatching(a.partner), impl.ErrBad},
				{!within(a.n, 1000000), impl.ErrRange},
			}
		}},
		{"NoiseDrops", func(a dropArgs) (string, int) {
			drops, code := impl.NoiseDrops(a.seed, a.n, a.plan)
			return textsToldUnlessNone(drops), code
		}, func(a dropArgs) []fault {
			return []fault{
				{len(a.seed) > 65536, impl.ErrLong}, {len(a.seed) != 32, impl.ErrBad},
				{!within(a.n, 1000000) || !within(a.plan.Singles, 16) || !within(a.plan.Pairs, 16), impl.ErrRange},
			}
		}},
	}
}

func dropCalls() []dropCall { return slices.Concat(meetingCalls(), shareCalls(), planCalls()) }

func wantDropCode(t *testing.T, f dropCall, a dropArgs) {
	t.Helper()
	want := firstFault(f.faults(a))
	got, code := f.call(a)
	if code != want || code != impl.OK && got != "" {
		t.Errorf("%s of %s: %.200q, code %d; want code %d", f.name, a, got, code, want)
	}
}

// codeDrops have all lengths at which a code changes, and wrong ones at both ends.
func codeDrops() [][]string {
	return [][]string{
		nil, {""}, {noughts(7)}, {noughts(8)}, {noughts(9)}, {someText(impl.MaxText + 1)}, {noughts(8), noughts(8), noughts(7)},
		manyDrops(64, 20), append(manyDrops(63, 20), noughts(9)), manyDrops(65, 20), append(manyDrops(64, 20), ""),
		manyDrops(impl.MaxList, 20), manyDrops(impl.MaxList+1, 20), make([]string, impl.MaxList), make([]string, impl.MaxList+1),
	}
}

// codeAccesses have the drops of codeDrops, with bodies at both ends and one beyond.
func codeAccesses() [][]impl.Access {
	var out [][]impl.Access
	for _, drops := range codeDrops() {
		for _, body := range []string{"", noughts(400), noughts(401)} {
			list := make([]impl.Access, len(drops))
			for i, drop := range drops {
				list[i].Drop = drop
			}
			if len(list) > 0 {
				list[len(list)-1].Body = body
			}
			out = append(out, list)
		}
	}
	return out
}

func codeTexts() []string {
	return []string{"", someText(31), someKey(), someText(33), someText(impl.MaxText), someText(impl.MaxText + 1)}
}

func codeShares() [][]string {
	return [][]string{
		nil, {""}, {someText(31)}, {someKey()}, {someText(33)}, {someText(impl.MaxText + 1)}, {someKey(), someKey(), ""},
		sharesOf(15), sharesOf(16), append(sharesOf(15), someText(31)), sharesOf(17), append(sharesOf(16), someText(31)),
		make([]string, 16), make([]string, 17), make([]string, impl.MaxList), make([]string, impl.MaxList+1), sharesOf(impl.MaxList + 1),
	}
}

func codeRounds() []int {
	return []int{math.MinInt, -1, 0, 1, 2, 15, 16, 17, 1000000, 1000001, math.MaxInt}
}

func codePartners() [][]int {
	return [][]int{
		nil, {0}, {1}, {-1}, {math.MinInt}, {math.MaxInt}, {1, 0}, {0, 0}, {1, 0, 2}, {1, 2, 0}, {2, 0, 1}, {1, 0, 3},
		numbersUpTo(8), turnedRound(numbersUpTo(8)), numbersUpTo(9), turnedRound(numbersUpTo(10)),
		numbersUpTo(impl.MaxList), numbersUpTo(impl.MaxList + 1), slices.Repeat([]int{-1}, impl.MaxList+1),
	}
}

func codePlans() []impl.NoisePlan {
	var out []impl.NoisePlan
	ends := []int{math.MinInt, -1, 0, 1, 16, 17, math.MaxInt}
	for _, singles := range ends {
		for _, pairs := range ends {
			out = append(out, impl.NoisePlan{Singles: singles, Pairs: pairs})
		}
	}
	return out
}

// TestP1DropCodes holds each code against the first fault that the chapter names, over all that may be wrong together.
func TestP1DropCodes(t *testing.T) {
	for _, f := range meetingCalls() {
		for _, drops := range codeDrops() {
			wantDropCode(t, f, dropArgs{drops: drops})
		}
		for _, list := range codeAccesses() {
			wantDropCode(t, f, dropArgs{list: list})
		}
	}
}

func TestP1ShareCodes(t *testing.T) {
	for _, f := range shareCalls() {
		for _, key := range codeTexts() {
			for _, seed := range codeTexts() {
				for _, n := range codeRounds() {
					wantDropCode(t, f, dropArgs{key: key, seed: seed, n: n})
				}
			}
		}
		for _, shares := range codeShares() {
			wantDropCode(t, f, dropArgs{shares: shares})
		}
	}
}

func TestP1PlanCodes(t *testing.T) {
	for _, f := range planCalls() {
		for _, seed := range codeTexts() {
			for _, round := range codeRounds() {
				for _, partner := range codePartners() {
					wantDropCode(t, f, dropArgs{seed: seed, n: round, partner: partner})
				}
				for _, plan := range codePlans() {
					wantDropCode(t, f, dropArgs{seed: seed, n: round, plan: plan})
				}
			}
		}
	}
}

// someDropArgs are right for each call.
func someDropArgs() dropArgs {
	return dropArgs{
		drops: manyDrops(20, 7), list: accessesOf(0, 1, 2, 1, 0, 1, 3), key: someKey(), seed: shareOf(9), n: 5,
		shares: sharesOf(4), partner: []int{1, 0, 2, 4, 3}, plan: impl.NoisePlan{Singles: 2, Pairs: 3},
	}
}

// TestP1DropsAtBothEndsOfInt puts the least and the greatest int into each place and into several together.
func TestP1DropsAtBothEndsOfInt(t *testing.T) {
	ends := []int{math.MinInt, math.MinInt + 1, math.MinInt / 2, math.MaxInt / 2, math.MaxInt/2 + 1, math.MaxInt - 1, math.MaxInt}
	for _, f := range dropCalls() {
		wantDropCode(t, f, someDropArgs())
		for _, end := range ends {
			for _, other := range ends {
				for _, change := range []func(a *dropArgs){
					func(a *dropArgs) { a.n = end },
					func(a *dropArgs) { a.partner[0] = end },
					func(a *dropArgs) { a.partner[4] = end },
					func(a *dropArgs) { a.partner = []int{end} },
					func(a *dropArgs) { a.partner = []int{end, other} },
					func(a *dropArgs) { a.partner[2], a.n = end, other },
					func(a *dropArgs) { a.plan.Singles = end },
					func(a *dropArgs) { a.plan.Pairs = end },
					func(a *dropArgs) { a.plan = impl.NoisePlan{Singles: end, Pairs: other} },
					func(a *dropArgs) { a.plan.Pairs, a.n = end, other },
				} {
					a := someDropArgs()
					change(&a)
					wantDropCode(t, f, a)
				}
			}
		}
	}
}

// manyDropArgs are right and wrong ones.
func manyDropArgs() []dropArgs {
	out := []dropArgs{{}, someDropArgs()}
	for _, drops := range codeDrops() {
		out = append(out, dropArgs{drops: drops})
	}
	for _, list := range codeAccesses() {
		out = append(out, dropArgs{list: list})
	}
	for _, shares := range codeShares() {
		out = append(out, dropArgs{shares: shares})
	}
	for i, partner := range codePartners() {
		a := someDropArgs()
		a.partner, a.seed, a.key = partner, codeTexts()[(i+2)%6], codeTexts()[(i/6+2)%6]
		with := someDropArgs()
		with.partner, with.plan, with.n = partner, codePlans()[2*i], codeRounds()[i%11]
		out = append(out, a, with)
	}
	return out
}

func guardedAccesses(list []impl.Access) (inside, whole []impl.Access) {
	whole = slices.Concat([]impl.Access{{Drop: noughts(8), Body: "ahead"}}, list, slices.Repeat([]impl.Access{{Drop: noughts(8), Body: "behind"}}, 70))
	return whole[1 : 1+len(list)], whole
}

// guardedDrops has the lists of arguments that lie in the middle of others whose other elements no call has to do with.
type guardedDrops struct {
	drops, shares []string
	list          []impl.Access
	partner       []int
}

func (w guardedDrops) same(v guardedDrops) bool {
	return slices.Equal(w.drops, v.drops) && slices.Equal(w.shares, v.shares) && slices.Equal(w.list, v.list) && slices.Equal(w.partner, v.partner)
}

func (a dropArgs) guardedIn() (inside dropArgs, w guardedDrops) {
	inside = a
	inside.drops, w.drops = guardedItems(a.drops)
	inside.shares, w.shares = guardedItems(a.shares)
	inside.list, w.list = guardedAccesses(a.list)
	inside.partner, w.partner = guardedNumbers(a.partner)
	return inside, w
}

// tight has lists without any room behind.
func (a dropArgs) tight() dropArgs {
	a.drops, a.shares = slices.Clip(slices.Clone(a.drops)), slices.Clip(slices.Clone(a.shares))
	a.list, a.partner = slices.Clip(slices.Clone(a.list)), slices.Clip(slices.Clone(a.partner))
	return a
}

func TestP1DropsAreNotWrittenIntoNorReadBehind(t *testing.T) {
	for _, a := range manyDropArgs() {
		for _, f := range dropCalls() {
			inside, wholes := a.guardedIn()
			got, code := f.call(inside)
			if _, want := a.guardedIn(); !wholes.same(want) {
				t.Errorf("%s of %s wrote into its lists, or around them", f.name, a)
			}
			if want, wanted := f.call(a.tight()); got != want || code != wanted {
				t.Errorf("%s of %s has another answer with others behind", f.name, a)
			}
		}
	}
}

// listAnswers are the calls that answer a list.
func listAnswers() []struct {
	name string
	call func(a dropArgs) ([]string, int)
} {
	return []struct {
		name string
		call func(a dropArgs) ([]string, int)
	}{
		{"ExchangeDrops", func(a dropArgs) ([]string, int) { return impl.ExchangeDrops(a.list) }},
		{"SplitKey", func(a dropArgs) ([]string, int) { return impl.SplitKey(a.key, a.n, a.seed) }},
		{"PlanDrops", func(a dropArgs) ([]string, int) { return impl.PlanDrops(a.seed, a.n, a.partner) }},
		{"NoiseDrops", func(a dropArgs) ([]string, int) { return impl.NoiseDrops(a.seed, a.n, a.plan) }},
	}
}

// TestP1AnsweredDropsAreNewMemory spoils one answer and looks at the arguments and at another answer.
func TestP1AnsweredDropsAreNewMemory(t *testing.T) {
	a := someDropArgs()
	for _, f := range listAnswers() {
		want, _ := f.call(a)
		want = slices.Clone(want)
		inside, wholes := a.guardedIn()
		first, _ := f.call(inside)
		second, code := f.call(inside)
		spoilTexts(first)
		if _, untouched := a.guardedIn(); !wholes.same(untouched) {
			t.Error(f.name, "answers in the memory of an argument")
		}
		clear(inside.list)
		spoilNumbers(inside.partner)
		if code != impl.OK || len(second) == 0 || !slices.Equal(second, want) {
			t.Error(f.name, "hangs on the memory of another answer or of an argument, code", code)
		}
	}
}

// TestP1AnsweredTextsOfDropsAreNewMemory: bodies, shares and drops are texts of their own, the drops that stand there twice
// too.
func TestP1AnsweredTextsOfDropsAreNewMemory(t *testing.T) {
	a := someDropArgs()
	handed := slices.Concat(a.drops, a.shares, []string{a.key, a.seed})
	for _, x := range a.list {
		handed = append(handed, x.Drop, x.Body)
	}
	for _, n := range []int{1, 5} {
		a.n = n
		for _, f := range listAnswers() {
			answer, code := f.call(a)
			for i, text := range answer {
				for _, other := range slices.Concat(handed, answer[:i]) {
					if text != "" && sharesText(text, other) {
						t.Errorf("%s: %x shares its memory", f.name, text)
					}
				}
			}
			if code != impl.OK || len(answer) == 0 {
				t.Errorf("%s: %x, code %d", f.name, answer, code)
			}
		}
	}
	for n := 1; n <= 4; n++ {
		key, code := impl.JoinKey(a.shares[:n])
		if code != impl.OK || slices.ContainsFunc(a.shares, func(share string) bool { return sharesText(key, share) }) {
			t.Errorf("JoinKey of %d: code %d, or the key shares its memory", n, code)
		}
	}
}

func TestP1DropsOfNilAndEmpty(t *testing.T) {
	for _, a := range manyDropArgs() {
		for _, f := range dropCalls() {
			with := a
			with.drops, with.list, with.shares, with.partner = nil, nil, nil, nil
			want, wanted := f.call(with)
			for _, room := range []int{0, 70} {
				with.drops, with.list = make([]string, 0, room), make([]impl.Access, 0, room)
				with.shares, with.partner = make([]string, 0, room), make([]int, 0, room)
				if got, code := f.call(with); got != want || code != wanted {
					t.Errorf("%s of %s: nil and an empty list differ", f.name, a)
				}
			}
		}
	}
	for _, room := range []int{0, 70} {
		wantHistogram(t, make([]string, 0, room), impl.Histogram{})
		wantExchanged(t, make([]impl.Access, 0, room), nil)
		wantNotJoined(t, make([]string, 0, room), impl.ErrRange)
		wantMatching(t, make([]int, 0, room), true)
		wantPlan(t, someKey(), 0, make([]int, 0, room))
	}
}

// dropAnswers tells what all functions of the chapter answer, in one order or the other; a call is known by the place of
// its arguments, for their texts would be long.
func dropAnswers() func(backwards bool) map[string]string {
	args := manyDropArgs()
	return func(backwards bool) map[string]string {
		out := map[string]string{}
		for i := range args {
			if backwards {
				i = len(args) - 1 - i
			}
			for _, f := range dropCalls() {
				out[fmt.Sprint(f.name, " of ", i)] = fmt.Sprintln(f.call(args[i]))
			}
		}
		return out
	}
}

func TestP1DropsAlikeArgumentsAlikeAnswers(t *testing.T) { wantAlike(t, dropAnswers()) }

func TestP1DropCallsBesideEachOther(t *testing.T) { wantAlikeBeside(t, dropAnswers()) }

// TestP1DropsHangOnNoOrderOfAMap asks lists of many drops over and over, for a map is walked in another order each time.
func TestP1DropsHangOnNoOrderOfAMap(t *testing.T) {
	for _, kinds := range []int{3, 20, 41, 64} {
		drops := manyDrops(64, kinds)
		var list []impl.Access
		for place, drop := range drops {
			list = append(list, impl.Access{Drop: drop, Body: fmt.Sprint("body ", place)})
		}
		h, exchanged := otherHistogram(drops), otherExchange(list)
		for range 300 {
			wantHistogram(t, drops, h)
			wantExchanged(t, list, exchanged)
		}
	}
}
