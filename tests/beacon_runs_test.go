package tests

import (
	"slices"
	"testing"

	"loop.example/g00254/impl"
)

// acceptedAct is an act of code 0, with its place in the run.
type acceptedAct struct {
	at  int
	act impl.BeaconAct
}

func acceptedActs(acts []impl.BeaconAct, codes []int, kind int) []acceptedAct {
	var out []acceptedAct
	for i, a := range acts {
		if a.Kind == kind && codes[i] == impl.OK {
			out = append(out, acceptedAct{i, a})
		}
	}
	return out
}

// wantKept asks for the promise of a beacon that has ended; it says whether it has.
func wantKept(t *testing.T, servers int, acts []impl.BeaconAct) bool {
	t.Helper()
	b, codes := wantRun(t, servers, acts)
	if b.Phase != 2 {
		return false
	}
	commits, reveals := acceptedActs(acts, codes, impl.BeCommit), acceptedActs(acts, codes, impl.BeReveal)
	if len(commits) != servers || len(reveals) != servers || commits[servers-1].at >= reveals[0].at {
		t.Fatalf("%d servers: a reveal ahead of a commit, or not one of each server: %v", servers, codes)
	}
	for _, c := range commits {
		if b.Shares[c.act.Server] != c.act.Share || b.Commits[c.act.Server] != otherCommit(c.act.Share, c.act.Salt) {
			t.Errorf("%d servers: of server %d another share than it committed to", servers, c.act.Server)
		}
	}
	return true
}

// TestP8AllShortRuns takes every run of one server of up to six acts, there being two shares.
func TestP8AllShortRuns(t *testing.T) {
	choices := slices.Concat(actsOf(impl.BeCommit, 1), actsOf(impl.BeReveal, 1), otherReveals(0)[:1], closing(), ending())
	choices = append(choices, impl.BeaconAct{Kind: impl.BeCommit, Share: shareOf(99), Salt: saltOf(0)})
	ended := 0
	var run func(acts []impl.BeaconAct)
	run = func(acts []impl.BeaconAct) {
		if wantKept(t, 1, acts) {
			ended++
		}
		if len(acts) < 6 {
			for _, a := range choices {
				run(append(slices.Clip(acts), a))
			}
		}
	}
	run(nil)
	if ended == 0 {
		t.Error("no run ended")
	}
}

// someActs look like any others, though most of them come at their right time.
func someActs(servers, n int, bytes []byte) []impl.BeaconAct {
	right := upToPhase(2, servers)
	var out []impl.BeaconAct
	for i := range n {
		luck, server := int(bytes[2*i]), int(bytes[2*i+1])%servers
		switch {
		case luck < 40:
			out = append(out, actOf(impl.BeCommit, server))
		case luck < 80:
			out = append(out, actOf(impl.BeReveal, server))
		case luck < 110:
			out = append(out, otherReveals(server)[luck%6])
		case luck < 130:
			out = append(out, impl.BeaconAct{Kind: luck%7 - 1, Server: server - 1, Share: shareOf(luck), Salt: saltOf(luck)})
		case len(right) > 0:
			out, right = append(out, right[0]), right[1:]
		}
	}
	return out
}

func TestP8SomeRuns(t *testing.T) {
	ended, open := 0, 0
	for servers := 1; servers <= 6; servers++ {
		for k := range 200 {
			acts := someActs(servers, 10+k%50, someBytes(200+k))
			if wantKept(t, servers, acts) {
				ended++
			} else {
				open++
			}
			wantSameWithoutRefused(t, servers, acts)
		}
	}
	if ended < 100 || open < 100 {
		t.Errorf("%d runs ended, %d did not: these are too few", ended, open)
	}
}

// wantSameWithoutRefused: what is refused changes nothing, so that it may as well not be there.
func wantSameWithoutRefused(t *testing.T, servers int, acts []impl.BeaconAct) {
	t.Helper()
	b, codes := wantRun(t, servers, acts)
	var accepted []impl.BeaconAct
	for i, a := range acts {
		if codes[i] == impl.OK {
			accepted = append(accepted, a)
		}
	}
	again, all := wantRun(t, servers, accepted)
	if !sameBeacon(b, again) || !slices.Equal(all, make([]int, len(accepted))) {
		t.Errorf("%d servers: without what was refused %s, codes %v; with it %s", servers, told(again), all, told(b))
	}
}

func endedBeacon(shares ...string) impl.Beacon { return impl.Beacon{Phase: 2, Shares: shares} }

func sharesOf(count int) []string {
	var out []string
	for k := range count {
		out = append(out, shareOf(k))
	}
	return out
}

func TestP8BeaconValue(t *testing.T) {
	for count := 1; count <= 6; count++ {
		want := hashOf(append([]string{"beacon"}, sharesOf(count)...)...)
		got, code := impl.BeaconValue(endedBeacon(sharesOf(count)...))
		wantText(t, "BeaconValue", got, code, want)
		b, _ := wantRun(t, count, upToPhase(2, count))
		got, code = impl.BeaconValue(b)
		wantText(t, "BeaconValue of a run", got, code, want)
	}
	got, code := impl.BeaconValue(endedBeacon(shareOf(1), shareOf(0)))
	wantText(t, "BeaconValue", got, code, libraryHash([]byte("beacon"+shareOf(1)+shareOf(0))))
	got, code = impl.BeaconValue(endedBeacon(shareOf(1), shareOf(1)))
	wantText(t, "BeaconValue of one share twice", got, code, hashOf("beacon", shareOf(1), shareOf(1)))
}

// TestP8BeaconValueOfOtherCommits: the commits have been looked at by the acts.
func TestP8BeaconValueOfOtherCommits(t *testing.T) {
	for _, commits := range [][]string{nil, {""}, {"x", "y", "z"}, make([]string, 7), {noughts(impl.MaxText + 1)}, make([]string, impl.MaxList+1)} {
		b := endedBeacon(sharesOf(2)...)
		b.Commits = commits
		got, code := impl.BeaconValue(b)
		wantText(t, "BeaconValue", got, code, hashOf("beacon", shareOf(0), shareOf(1)))
	}
}

func TestP8BeaconValueOfTooFewOrTooMany(t *testing.T) {
	for _, count := range []int{0, 7, 8, 64, impl.MaxList, impl.MaxList + 1} {
		for _, shares := range [][]string{sharesOf(count), make([]string, count)} {
			for _, phase := range []int{2, 0, 1, 3, -1} {
				got, code := impl.BeaconValue(impl.Beacon{Phase: phase, Shares: shares})
				wantCode(t, "BeaconValue of too few or too many", got, code, impl.ErrBad)
			}
		}
	}
}

func TestP8BeaconValueInAnotherPhase(t *testing.T) {
	for _, phase := range append(farNumbers(), -1, 0, 1, 3, 4) {
		for count := 1; count <= 6; count++ {
			for _, shares := range [][]string{sharesOf(count), make([]string, count), append(sharesOf(count-1), noughts(31))} {
				got, code := impl.BeaconValue(impl.Beacon{Phase: phase, Shares: shares})
				wantCode(t, "BeaconValue in another phase", got, code, impl.ErrAgain)
			}
		}
	}
}

func TestP8BeaconValueOfOtherLengths(t *testing.T) {
	for count := 1; count <= 6; count++ {
		for at := range count {
			for _, wrong := range append(wrongLengths(), longTexts()...) {
				shares := sharesOf(count)
				shares[at] = wrong
				got, code := impl.BeaconValue(endedBeacon(shares...))
				wantCode(t, "BeaconValue of a share of another length", got, code, impl.ErrBad)
			}
		}
	}
	got, code := impl.BeaconValue(endedBeacon(noughts(31), noughts(33)))
	wantCode(t, "BeaconValue of 31 and 33 bytes", got, code, impl.ErrBad)
}
