package tests

import (
	"fmt"
	"slices"
	"strings"
	"testing"

	"loop.example/g00254/impl"
)

func shareCommitCall() twoTexts { return twoTexts{"ShareCommit", impl.ShareCommit} }

func TestP1ShareCommitLongFirst(t *testing.T) {
	wantLongFirst(t, shareCommitCall(), append(wrongLengths(), noughts(32), noughts(16)))
}

// longActs has more acts than any list may have.
func longActs() [][]impl.BeaconAct {
	return [][]impl.BeaconAct{
		make([]impl.BeaconAct, impl.MaxList+1), slices.Repeat(upToPhase(2, 2), 1000),
		slices.Repeat([]impl.BeaconAct{{Share: noughts(impl.MaxText + 1)}}, impl.MaxList+1),
	}
}

func TestP1RunsLongFirst(t *testing.T) {
	for _, acts := range longActs() {
		for _, servers := range append(farNumbers(), -1, 0, 1, 6, 7) {
			wantNoRun(t, servers, acts, impl.ErrLong)
		}
	}
}

// TestP1RunsOfLongTexts: of texts within acts the chapter has ErrLong behind its other codes.
func TestP1RunsOfLongTexts(t *testing.T) {
	for _, long := range longTexts() {
		for _, kind := range []int{-1, 0, 1, 2, 3, 4, 5} {
			for _, a := range []impl.BeaconAct{
				{Kind: kind, Share: long, Salt: saltOf(0)}, {Kind: kind, Share: shareOf(0), Salt: long}, {Kind: kind, Server: -1, Share: long, Salt: long},
			} {
				wantNoRun(t, 1, []impl.BeaconAct{a}, impl.ErrLong)
				wantNoRun(t, 6, append(upToPhase(2, 6), a), impl.ErrLong)
				wantNoRun(t, 2, append([]impl.BeaconAct{a}, upToPhase(2, 2)...), impl.ErrLong)
				wantNoRun(t, 2, append(slices.Repeat(closing(), 59), a), impl.ErrLong)
				wantNoRun(t, 2, append(slices.Repeat(closing(), 60), a), impl.ErrMany)
				wantNoRun(t, 0, []impl.BeaconAct{a}, impl.ErrRange)
				wantNoRun(t, 7, []impl.BeaconAct{a}, impl.ErrRange)
			}
		}
	}
	at := noughts(impl.MaxText)
	wantRun(t, 1, []impl.BeaconAct{{Kind: impl.BeCommit, Share: at, Salt: at}, {Kind: 9, Share: at}, {Kind: impl.BeClose, Salt: at}})
}

func longNumbers() [][]int {
	return [][]int{make([]int, impl.MaxList+1), slices.Repeat([]int{3}, impl.MaxList+1), slices.Repeat([]int{-1}, 2*impl.MaxList)}
}

func TestP1DrawsLongFirst(t *testing.T) {
	for _, list := range longNumbers() {
		for _, n := range append(farNumbers(), -1, 0, 1, 3, 65536, 65537) {
			wantUniform(t, list, n, 0, 0, impl.ErrLong)
			for _, seed := range append(append(wrongLengths(), longTexts()...), someKey()) {
				wantNoRoute(t, seed, n, 0, list, impl.ErrLong)
				wantNoRoute(t, seed, 0, n, list, impl.ErrLong)
			}
		}
	}
	for _, long := range longTexts() {
		for _, n := range append(edgeCounts(), wrongCounts()...) {
			wantNoWords(t, long, n, impl.ErrLong)
		}
		for _, widths := range append(rightWidths(), wrongWidths()...) {
			for _, user := range append(wrongUsers(), 0, 255) {
				wantNoRoute(t, long, user, 0, widths, impl.ErrLong)
				wantNoRoute(t, long, 0, user, widths, impl.ErrLong)
			}
		}
	}
}

func TestP1SharesAndSeedsStay(t *testing.T) {
	one := []oneText{
		{"Words", func(seed string) (string, int) { words, code := impl.Words(seed, 40); return told(words), code }},
		{"RouteOf", func(seed string) (string, int) {
			route, code := impl.RouteOf(seed, 1, 2, []int{3})
			return told(route), code
		}},
		{"BeaconValue", func(share string) (string, int) { return impl.BeaconValue(endedBeacon(share)) }},
	}
	for _, size := range []int{0, 16, 31, 32, 33, impl.MaxText + 1} {
		wantArgumentsStay(t, one, []twoTexts{shareCommitCall()}, string(someBytes(size)), string(someBytes(16)))
	}
}

// guardedNumbers lie in the middle of a list whose other numbers no call has to do with.
func guardedNumbers(list []int) (inside, whole []int) {
	whole = slices.Concat([]int{-7, 7}, list, slices.Repeat([]int{5}, 3000))
	return whole[2 : 2+len(list)], whole
}

func numberLists() [][]int {
	return slices.Concat(rightWidths(), wrongWidths(), wrongWordLists(), longNumbers(), [][]int{otherWords(someKey(), 2000), slices.Repeat([]int{65535}, 2000)})
}

// numbersTold is what the calls that are handed a list of numbers answer.
func numbersTold(list []int) string {
	number, taken, code := impl.UniformOf(list, 10)
	out := fmt.Sprintln(number, taken, code)
	number, taken, code = impl.UniformOf(list, 40000)
	out += fmt.Sprintln(number, taken, code)
	route, code := impl.RouteOf(someKey(), 1, 2, list)
	return out + fmt.Sprintln(route, code)
}

func TestP1NumbersAreNotWrittenIntoNorReadBehind(t *testing.T) {
	for _, list := range numberLists() {
		inside, whole := guardedNumbers(list)
		got := numbersTold(inside)
		if _, want := guardedNumbers(list); !slices.Equal(whole, want) {
			t.Errorf("%d numbers were written into, or what is around them", len(list))
		}
		if got != numbersTold(slices.Clip(slices.Clone(list))) {
			t.Errorf("%d numbers have other answers with others behind", len(list))
		}
	}
}

// guardedActs lie in the middle of a list whose other acts no call has to do with.
func guardedActs(acts []impl.BeaconAct) (inside, whole []impl.BeaconAct) {
	whole = slices.Concat(ending(), acts, slices.Repeat([]impl.BeaconAct{{Kind: impl.BeCommit, Share: shareOf(5), Salt: saltOf(5)}}, 70))
	return whole[1 : 1+len(acts)], whole
}

func actLists() [][]impl.BeaconAct {
	out := append(longActs(), nil, slices.Repeat(closing(), 61))
	for servers := 1; servers <= 6; servers++ {
		for n := range upToPhase(2, servers) {
			out = append(out, upToPhase(2, servers)[:n], append(upToPhase(1, servers), otherReveals(n)...))
		}
	}
	return out
}

func runTold(servers int, acts []impl.BeaconAct) string {
	b, codes, code := impl.BeaconRun(servers, acts)
	return fmt.Sprintf("%d %x %x %v %d", b.Phase, b.Commits, b.Shares, codes, code)
}

func TestP1ActsAreNotWrittenIntoNorReadBehind(t *testing.T) {
	for _, acts := range actLists() {
		for servers := range 8 {
			inside, whole := guardedActs(acts)
			got := runTold(servers, inside)
			if _, want := guardedActs(acts); !slices.Equal(whole, want) {
				t.Errorf("%d acts were written into, or what is around them", len(acts))
			}
			if got != runTold(servers, slices.Clip(slices.Clone(acts))) {
				t.Errorf("%d acts have other answers with others behind", len(acts))
			}
		}
	}
}

func TestP1BeaconsAreNotWrittenIntoNorReadBehind(t *testing.T) {
	for _, shares := range [][]string{nil, sharesOf(1), sharesOf(6), sharesOf(7), {""}, {"x", shareOf(1)}} {
		for phase := -1; phase <= 3; phase++ {
			inside, whole := guardedItems(shares)
			b := impl.Beacon{Phase: phase, Commits: inside, Shares: inside}
			got, code := impl.BeaconValue(b)
			if _, want := guardedItems(shares); !slices.Equal(whole, want) {
				t.Errorf("%d shares were written into, or what is around them", len(shares))
			}
			want, wantedCode := impl.BeaconValue(impl.Beacon{Phase: phase, Shares: slices.Clip(slices.Clone(shares))})
			if got != want || code != wantedCode {
				t.Errorf("%d shares have another value with others behind", len(shares))
			}
		}
	}
}

func TestP1AnsweredBeaconsAreNewMemory(t *testing.T) {
	acts := upToPhase(2, 3)
	first, firstCodes, _ := impl.BeaconRun(3, acts)
	second, secondCodes, _ := impl.BeaconRun(3, acts)
	for server, share := range first.Shares {
		for _, a := range acts {
			if a.Share != "" && sharesText(share, a.Share) {
				t.Error("BeaconRun shares the text of server", server)
			}
		}
	}
	clear(first.Commits[:cap(first.Commits)])
	clear(firstCodes[:cap(firstCodes)])
	if !slices.Equal(first.Shares, sharesOf(3)) {
		t.Error("the Shares of a beacon lie in the memory of its Commits")
	}
	clear(first.Shares[:cap(first.Shares)])
	other := newOther(3)
	for _, a := range acts {
		other.act(a)
	}
	if !sameBeacon(second, other.beacon()) || !slices.Equal(secondCodes, make([]int, len(acts))) || !slices.Equal(acts, upToPhase(2, 3)) {
		t.Error("BeaconRun hands out memory that is not new")
	}
}

func TestP1AnsweredNumbersAreNewMemory(t *testing.T) {
	first, _ := impl.Words(someKey(), 100)
	clear(first[:cap(first)])
	wantWords(t, someKey(), 100)
	widths := []int{16, 15, 14}
	route, _ := impl.RouteOf(someKey(), 1, 1, widths)
	for i := range route[:cap(route)] {
		route[:cap(route)][i] = 99
	}
	if !slices.Equal(widths, []int{16, 15, 14}) {
		t.Error("RouteOf answers in the memory of its widths")
	}
	wantRoute(t, someKey(), 1, 1, widths)
}

func TestP1BeaconOfNilAndEmpty(t *testing.T) {
	for _, empty := range [][]impl.BeaconAct{nil, {}, make([]impl.BeaconAct, 0, 70)} {
		for servers := range 8 {
			if runTold(servers, empty) != runTold(servers, nil) {
				t.Error("nil and an empty list of acts differ")
			}
		}
	}
	for _, empty := range [][]int{nil, {}, make([]int, 0, 70)} {
		wantUniform(t, empty, 3, 0, 0, impl.ErrMissing)
		wantUniform(t, empty, 0, 0, 0, impl.ErrRange)
		wantRoute(t, someKey(), 1, 2, empty)
		wantNoRoute(t, someKey(), 256, 2, empty, impl.ErrRange)
	}
	for _, empty := range [][]string{nil, {}, make([]string, 0, 70)} {
		got, code := impl.BeaconValue(endedBeacon(empty...))
		wantCode(t, "BeaconValue of nothing", got, code, impl.ErrBad)
		got, code = impl.BeaconValue(impl.Beacon{Phase: 2, Commits: empty, Shares: sharesOf(1)})
		wantText(t, "BeaconValue without commits", got, code, hashOf("beacon", shareOf(0)))
	}
}

// beaconAnswers tells what all functions of the chapter answer, in one order or the other.
func beaconAnswers(backwards bool) map[string]string {
	acts, lists, seeds := actLists()[3:40], numberLists(), append(someSeeds(), wrongLengths()...)
	if backwards {
		slices.Reverse(acts)
		slices.Reverse(lists)
		slices.Reverse(seeds)
	}
	out := map[string]string{}
	for _, list := range acts {
		for servers := range 8 {
			out[fmt.Sprintf("acts %d %x", servers, list)] = runTold(servers, list)
		}
	}
	for _, list := range lists {
		out[fmt.Sprint("numbers ", list)] = numbersTold(list)
	}
	for _, seed := range seeds {
		words, code := impl.Words(seed, 50)
		value, valueCode := impl.BeaconValue(endedBeacon(seed, seed))
		commit, commitCode := impl.ShareCommit(seed, strings.Repeat("s", 16))
		out["seed "+seed] = fmt.Sprintf("%v %d %x %d %x %d", words, code, value, valueCode, commit, commitCode)
	}
	for n := range 100 {
		accepted, code := impl.AcceptedWords(n)
		out[fmt.Sprint("bound ", n)] = fmt.Sprint(accepted, code)
	}
	return out
}

func TestP1BeaconAlikeArgumentsAlikeAnswers(t *testing.T) { wantAlike(t, beaconAnswers) }

func TestP1BeaconCallsBesideEachOther(t *testing.T) { wantAlikeBeside(t, beaconAnswers) }
