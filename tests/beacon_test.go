package tests

import (
	"fmt"
	"slices"
	"testing"

	"loop.example/g00254/impl"
)

func shareOf(k int) string { return libraryHash(fmt.Append(nil, "share ", k)) }

func saltOf(k int) string { return libraryHash(fmt.Append(nil, "salt ", k))[:16] }

func otherCommit(share, salt string) string { return libraryHash([]byte("commit" + salt + share)) }

// actOf is a server's act with the share and the salt that are its own.
func actOf(kind, server int) impl.BeaconAct {
	return impl.BeaconAct{Kind: kind, Server: server, Share: shareOf(server), Salt: saltOf(server)}
}

// actsOf are an act of each server but those that are left out.
func actsOf(kind, servers int, without ...int) []impl.BeaconAct {
	var out []impl.BeaconAct
	for server := range servers {
		if !slices.Contains(without, server) {
			out = append(out, actOf(kind, server))
		}
	}
	return out
}

func closing() []impl.BeaconAct { return []impl.BeaconAct{{Kind: impl.BeClose}} }

func ending() []impl.BeaconAct { return []impl.BeaconAct{{Kind: impl.BeEnd}} }

// upToPhase has all that leads to the beginning of a phase.
func upToPhase(phase, servers int) []impl.BeaconAct {
	committed := slices.Concat(actsOf(impl.BeCommit, servers), closing())
	return [][]impl.BeaconAct{nil, committed, slices.Concat(committed, actsOf(impl.BeReveal, servers), ending())}[phase]
}

// otherBeacon keeps the acts that were accepted, of each phase those of its servers.
type otherBeacon struct {
	servers, phase int
	accepted       [2]map[int]impl.BeaconAct
}

func newOther(servers int) *otherBeacon {
	return &otherBeacon{servers: servers, accepted: [2]map[int]impl.BeaconAct{{}, {}}}
}

type fault struct {
	is   bool
	code int
}

func firstFault(faults []fault) int {
	for _, f := range faults {
		if f.is {
			return f.code
		}
	}
	return impl.OK
}

func (b *otherBeacon) code(a impl.BeaconAct) int {
	phase := (a.Kind - 1) / 2
	switch {
	case a.Kind < 1 || a.Kind > 4:
		return impl.ErrForm
	case a.Kind%2 == 0:
		return firstFault([]fault{{b.phase != phase, impl.ErrLate}, {len(b.accepted[phase%2]) < b.servers, impl.ErrMissing}})
	}
	_, twice := b.accepted[phase][a.Server]
	committed := b.accepted[0][a.Server]
	return firstFault([]fault{
		{!within(a.Server, b.servers-1), impl.ErrRange},
		{len(a.Share) != 32 || len(a.Salt) != 16, impl.ErrBad},
		{b.phase != phase, impl.ErrLate},
		{twice, impl.ErrTwice},
		{phase == 1 && (a.Share != committed.Share || a.Salt != committed.Salt), impl.ErrSum},
	})
}

func (b *otherBeacon) act(a impl.BeaconAct) int {
	code := b.code(a)
	if code == impl.OK && a.Kind%2 == 0 {
		b.phase++
	} else if code == impl.OK {
		b.accepted[a.Kind/2][a.Server] = a
	}
	return code
}

func (b *otherBeacon) beacon() impl.Beacon {
	out := impl.Beacon{Phase: b.phase, Commits: make([]string, b.servers), Shares: make([]string, b.servers)}
	for server, a := range b.accepted[0] {
		out.Commits[server] = otherCommit(a.Share, a.Salt)
	}
	for server, a := range b.accepted[1] {
		out.Shares[server] = a.Share
	}
	return out
}

func sameBeacon(a, b impl.Beacon) bool {
	return a.Phase == b.Phase && slices.Equal(a.Commits, b.Commits) && slices.Equal(a.Shares, b.Shares)
}

// wantRun holds a run against the acts that are accepted one by one; it hands out what the run answered.
func wantRun(t *testing.T, servers int, acts []impl.BeaconAct) (impl.Beacon, []int) {
	t.Helper()
	other := newOther(servers)
	var want []int
	for _, a := range acts {
		want = append(want, other.act(a))
	}
	b, codes, code := impl.BeaconRun(servers, acts)
	if code != impl.OK || !slices.Equal(codes, want) {
		t.Errorf("%d servers, %s: codes %v, code %d; want %v", servers, told(acts), codes, code, want)
	}
	if !sameBeacon(b, other.beacon()) {
		t.Errorf("%d servers, %s: got %s", servers, told(acts), told(b))
	}
	return b, codes
}

func wantNoRun(t *testing.T, servers int, acts []impl.BeaconAct, want int) {
	t.Helper()
	b, codes, code := impl.BeaconRun(servers, acts)
	if code != want || len(codes) != 0 || !sameBeacon(b, impl.Beacon{}) {
		t.Errorf("%d servers, %d acts: %s, codes %v, code %d; want nothing, code %d", servers, len(acts), told(b), codes, code, want)
	}
}

// wantLastCode is for an act that is put behind others, all of which are right.
func wantLastCode(t *testing.T, servers int, ahead []impl.BeaconAct, last impl.BeaconAct, want int) {
	t.Helper()
	before, _ := wantRun(t, servers, ahead)
	after, codes := wantRun(t, servers, append(slices.Clone(ahead), last))
	if len(codes) != len(ahead)+1 {
		t.Fatalf("%d codes of %d acts", len(codes), len(ahead)+1)
	}
	if slices.ContainsFunc(codes[:len(ahead)], func(code int) bool { return code != impl.OK }) {
		t.Errorf("%d servers: codes %v of right acts", servers, codes)
	}
	if got := codes[len(ahead)]; got != want {
		t.Errorf("%d servers, %d acts, then %s: code %d; want %d", servers, len(ahead), told(last), got, want)
	}
	if want != impl.OK && !sameBeacon(before, after) {
		t.Errorf("%d servers: %s of code %d changed %s to %s", servers, told(last), want, told(before), told(after))
	}
}

func TestP8ShareCommit(t *testing.T) {
	for k := range 20 {
		got, code := impl.ShareCommit(shareOf(k), saltOf(k))
		wantText(t, "ShareCommit", got, code, impl.Hash([]byte("commit"+saltOf(k)+shareOf(k))))
		wantText(t, "ShareCommit", got, code, otherCommit(shareOf(k), saltOf(k)))
	}
	got, code := impl.ShareCommit(noughts(32), ones(16))
	wantText(t, "ShareCommit of noughts and ones", got, code, hashOf("commit", ones(16), noughts(32)))
}

func TestP8ShareCommitSizes(t *testing.T) {
	for _, share := range []int{0, 1, 16, 31, 32, 33, 48, impl.MaxText} {
		for _, salt := range []int{0, 1, 15, 16, 17, 32, impl.MaxText} {
			got, code := impl.ShareCommit(noughts(share), noughts(salt))
			if share == 32 && salt == 16 {
				wantText(t, "ShareCommit", got, code, otherCommit(noughts(32), noughts(16)))
			} else {
				wantCode(t, fmt.Sprint("ShareCommit of ", share, " and ", salt, " bytes"), got, code, impl.ErrBad)
			}
		}
	}
}

// TestP8ThroughAllPhases looks at the beacon behind each of the acts, the servers being in one order and the other.
func TestP8ThroughAllPhases(t *testing.T) {
	for servers := 1; servers <= 6; servers++ {
		commits, reveals := actsOf(impl.BeCommit, servers), actsOf(impl.BeReveal, servers)
		for range 2 {
			acts := slices.Concat(commits, closing(), reveals, ending())
			for n := range len(acts) + 1 {
				_, codes := wantRun(t, servers, acts[:n])
				if !slices.Equal(codes, make([]int, n)) {
					t.Errorf("%d servers: codes %v of right acts", servers, codes)
				}
			}
			slices.Reverse(commits)
		}
	}
}

func TestP8WhatAWholeRunLeaves(t *testing.T) {
	b, codes, code := impl.BeaconRun(2, upToPhase(2, 2))
	want := impl.Beacon{
		Phase:   2,
		Commits: []string{hashOf("commit", saltOf(0), shareOf(0)), hashOf("commit", saltOf(1), shareOf(1))},
		Shares:  []string{shareOf(0), shareOf(1)},
	}
	if code != impl.OK || !slices.Equal(codes, make([]int, 6)) || !sameBeacon(b, want) {
		t.Errorf("got %s, codes %v, code %d", told(b), codes, code)
	}
	b, codes, code = impl.BeaconRun(3, []impl.BeaconAct{actOf(impl.BeCommit, 1)})
	want = impl.Beacon{Commits: []string{"", otherCommit(shareOf(1), saltOf(1)), ""}, Shares: []string{"", "", ""}}
	if code != impl.OK || !slices.Equal(codes, []int{0}) || !sameBeacon(b, want) {
		t.Errorf("got %s, codes %v, code %d", told(b), codes, code)
	}
}

func TestP8RunsOfNoActs(t *testing.T) {
	for servers := 1; servers <= 6; servers++ {
		b, codes := wantRun(t, servers, nil)
		if b.Phase != 0 || len(b.Commits) != servers || len(b.Shares) != servers || len(codes) != 0 {
			t.Errorf("%d servers, no acts: %s, codes %v", servers, told(b), codes)
		}
	}
}

func TestP8ServersOutOfBounds(t *testing.T) {
	manyActs := slices.Repeat(closing(), 61)
	longText := []impl.BeaconAct{{Share: noughts(impl.MaxText + 1)}}
	for _, servers := range append(farNumbers(), -1, 0, 7, 8, 60) {
		for _, acts := range [][]impl.BeaconAct{nil, closing(), upToPhase(2, 6), manyActs, longText} {
			wantNoRun(t, servers, acts, impl.ErrRange)
		}
	}
}

func TestP8SixtyActs(t *testing.T) {
	for servers := 1; servers <= 6; servers++ {
		for _, n := range []int{59, 60} {
			wantRun(t, servers, slices.Concat(upToPhase(2, servers), slices.Repeat(closing(), 60))[:n])
		}
		for _, n := range []int{61, 62, 120, impl.MaxList} {
			acts := slices.Repeat(closing(), n)
			wantNoRun(t, servers, acts, impl.ErrMany)
			acts[n-1].Share = noughts(impl.MaxText + 1)
			wantNoRun(t, servers, acts, impl.ErrMany)
		}
	}
}

func TestP8KindsThatThereArent(t *testing.T) {
	for _, kind := range append(farNumbers(), -1, 0, 5, 6, 9) {
		for phase := range 3 {
			for _, server := range []int{-1, 0, 1, 2, 7} {
				wantLastCode(t, 2, upToPhase(phase, 2), actOf(kind, server), impl.ErrForm)
				wantLastCode(t, 2, upToPhase(phase, 2), impl.BeaconAct{Kind: kind, Server: server}, impl.ErrForm)
			}
		}
	}
}

func TestP8ServersThatThereArent(t *testing.T) {
	for servers := 1; servers <= 6; servers++ {
		for _, server := range append(farNumbers(), -1, servers, servers+1, 60) {
			for _, kind := range []int{impl.BeCommit, impl.BeReveal} {
				for phase := range 3 {
					wantLastCode(t, servers, upToPhase(phase, servers), actOf(kind, server), impl.ErrRange)
					wantLastCode(t, servers, upToPhase(phase, servers), impl.BeaconAct{Kind: kind, Server: server}, impl.ErrRange)
				}
			}
		}
	}
}

// TestP8SharesOfOtherLengths: ErrBad comes ahead of what a phase allows, and of what was done already.
func TestP8SharesOfOtherLengths(t *testing.T) {
	var wrong []impl.BeaconAct
	for _, size := range []int{0, 1, 31, 33, 64, impl.MaxText} {
		wrong = append(wrong, impl.BeaconAct{Share: noughts(size), Salt: saltOf(0)})
	}
	for _, size := range []int{0, 1, 15, 17, 32, impl.MaxText} {
		wrong = append(wrong, impl.BeaconAct{Share: shareOf(0), Salt: noughts(size)})
	}
	wrong = append(wrong, impl.BeaconAct{}, impl.BeaconAct{Share: saltOf(0), Salt: shareOf(0)}, impl.BeaconAct{Share: noughts(33), Salt: noughts(15)})
	for _, a := range wrong {
		for _, a.Kind = range []int{impl.BeCommit, impl.BeReveal} {
			for phase := range 3 {
				wantLastCode(t, 1, upToPhase(phase, 1), a, impl.ErrBad)
				wantLastCode(t, 3, upToPhase(phase, 3), a, impl.ErrBad)
			}
			wantLastCode(t, 2, []impl.BeaconAct{actOf(impl.BeCommit, 0)}, a, impl.ErrBad)
			wantLastCode(t, 2, append(upToPhase(1, 2), actOf(impl.BeReveal, 0)), a, impl.ErrBad)
		}
	}
}

// TestP8CloseAndEnd puts both behind none, all but one and all of the acts of a phase.
func TestP8CloseAndEnd(t *testing.T) {
	for servers := 1; servers <= 6; servers++ {
		for phase, kind := range []int{impl.BeCommit, impl.BeReveal} {
			ahead := upToPhase(phase, servers)
			whole := slices.Concat(ahead, actsOf(kind, servers))
			right, other := closing()[0], ending()[0]
			if phase == 1 {
				right, other = other, right
			}
			wantLastCode(t, servers, ahead, right, impl.ErrMissing)
			wantLastCode(t, servers, whole, right, impl.OK)
			wantLastCode(t, servers, ahead, other, impl.ErrLate)
			wantLastCode(t, servers, whole, other, impl.ErrLate)
			for server := range servers {
				but := slices.Concat(ahead, actsOf(kind, servers, server))
				wantLastCode(t, servers, but, right, impl.ErrMissing)
				wantLastCode(t, servers, but, other, impl.ErrLate)
			}
		}
		for _, last := range slices.Concat(closing(), ending()) {
			wantLastCode(t, servers, upToPhase(2, servers), last, impl.ErrLate)
		}
	}
}

// TestP8CloseAndEndLookAtTheKindAlone: a server, a share or a salt of theirs says nothing.
func TestP8CloseAndEndLookAtTheKindAlone(t *testing.T) {
	for _, a := range []impl.BeaconAct{{Server: -1}, {Server: 7}, {Share: "x", Salt: "y"}, actOf(0, 1), {Share: noughts(impl.MaxText)}} {
		for phase, kind := range []int{impl.BeCommit, impl.BeReveal} {
			a.Kind = kind + 1
			wantLastCode(t, 2, slices.Concat(upToPhase(phase, 2), actsOf(kind, 2)), a, impl.OK)
			wantLastCode(t, 2, upToPhase(phase, 2), a, impl.ErrMissing)
			wantLastCode(t, 2, upToPhase(1-phase, 2), a, impl.ErrLate)
		}
	}
}

func TestP8CommitsInEachPhase(t *testing.T) {
	for servers := 1; servers <= 6; servers++ {
		for server := range servers {
			own, other := actOf(impl.BeCommit, server), actOf(impl.BeCommit, server)
			other.Share = shareOf(99)
			wantLastCode(t, servers, nil, own, impl.OK)
			but := actsOf(impl.BeCommit, servers, server)
			wantLastCode(t, servers, but, own, impl.OK)
			for _, a := range []impl.BeaconAct{own, other} {
				wantLastCode(t, servers, []impl.BeaconAct{own}, a, impl.ErrTwice)
				wantLastCode(t, servers, append(but, own), a, impl.ErrTwice)
				wantLastCode(t, servers, upToPhase(1, servers), a, impl.ErrLate)
				wantLastCode(t, servers, append(upToPhase(1, servers), actOf(impl.BeReveal, server)), a, impl.ErrLate)
				wantLastCode(t, servers, upToPhase(2, servers), a, impl.ErrLate)
			}
		}
	}
}

func otherReveals(server int) []impl.BeaconAct {
	return []impl.BeaconAct{
		{Kind: impl.BeReveal, Server: server, Share: shareOf(99), Salt: saltOf(server)},
		{Kind: impl.BeReveal, Server: server, Share: shareOf(server), Salt: saltOf(99)},
		{Kind: impl.BeReveal, Server: server, Share: flipped(shareOf(server), 255), Salt: saltOf(server)},
		{Kind: impl.BeReveal, Server: server, Share: shareOf(server), Salt: flipped(saltOf(server), 0)},
		{Kind: impl.BeReveal, Server: server, Share: shareOf(server + 1), Salt: saltOf(server + 1)},
		{Kind: impl.BeReveal, Server: server, Share: noughts(32), Salt: noughts(16)},
	}
}

func TestP8RevealsInEachPhase(t *testing.T) {
	for servers := 1; servers <= 6; servers++ {
		for server := range servers {
			own, ahead := actOf(impl.BeReveal, server), upToPhase(1, servers)
			wantLastCode(t, servers, ahead, own, impl.OK)
			wantLastCode(t, servers, slices.Concat(ahead, actsOf(impl.BeReveal, servers, server)), own, impl.OK)
			for _, a := range otherReveals(server) {
				wantLastCode(t, servers, ahead, a, impl.ErrSum)
			}
			for _, a := range append(otherReveals(server), own) {
				wantLastCode(t, servers, nil, a, impl.ErrLate)
				wantLastCode(t, servers, []impl.BeaconAct{actOf(impl.BeCommit, server)}, a, impl.ErrLate)
				wantLastCode(t, servers, append(ahead, own), a, impl.ErrTwice)
				wantLastCode(t, servers, slices.Concat(ahead, actsOf(impl.BeReveal, servers)), a, impl.ErrTwice)
				wantLastCode(t, servers, upToPhase(2, servers), a, impl.ErrLate)
			}
		}
	}
}

// TestP8RevealBehindAWrongOne: who revealed another share may still reveal its own.
func TestP8RevealBehindAWrongOne(t *testing.T) {
	acts := slices.Concat(upToPhase(1, 1), otherReveals(0), actsOf(impl.BeReveal, 1), ending())
	b, codes := wantRun(t, 1, acts)
	if b.Phase != 2 || b.Shares[0] != shareOf(0) || codes[len(codes)-1] != impl.OK {
		t.Errorf("got %s, codes %v", told(b), codes)
	}
}

// edgeActs are of each kind, server, share and salt, right and wrong ones in every way.
func edgeActs() []impl.BeaconAct {
	var out []impl.BeaconAct
	for kind := -1; kind <= 6; kind++ {
		for server := -1; server <= 2; server++ {
			for _, share := range []string{"", shareOf(0)[:31], shareOf(0), shareOf(1), noughts(33)} {
				for _, salt := range []string{"", saltOf(0)[:15], saltOf(0), saltOf(1), noughts(17)} {
					out = append(out, impl.BeaconAct{Kind: kind, Server: server, Share: share, Salt: salt})
				}
			}
		}
	}
	return out
}

func TestP8WhichCodeOfAnActComesFirst(t *testing.T) {
	commit, reveal := actsOf(impl.BeCommit, 2), actsOf(impl.BeReveal, 2)
	for _, ahead := range [][]impl.BeaconAct{
		nil, commit[:1], commit[1:], commit, upToPhase(1, 2), append(upToPhase(1, 2), reveal[0]), append(upToPhase(1, 2), reveal[1]),
		append(upToPhase(1, 2), reveal...), upToPhase(2, 2),
	} {
		for _, last := range edgeActs() {
			other := newOther(2)
			for _, a := range ahead {
				other.act(a)
			}
			wantLastCode(t, 2, ahead, last, other.code(last))
		}
	}
}

func TestP8CodesOfActsWithSeveralFaults(t *testing.T) {
	for _, x := range []struct {
		call  string
		phase int
		last  impl.BeaconAct
		want  int
	}{
		{"a kind ahead of a server", 0, impl.BeaconAct{Kind: 5, Server: 9, Share: "x"}, impl.ErrForm},
		{"a server ahead of a length", 0, impl.BeaconAct{Kind: impl.BeCommit, Server: 9, Share: "x"}, impl.ErrRange},
		{"a server ahead of a phase", 2, actOf(impl.BeCommit, 9), impl.ErrRange},
		{"a length ahead of a phase", 2, impl.BeaconAct{Kind: impl.BeReveal, Share: "x"}, impl.ErrBad},
		{"a phase ahead of a second commit", 1, actOf(impl.BeCommit, 0), impl.ErrLate},
		{"a phase ahead of a second reveal", 2, actOf(impl.BeReveal, 0), impl.ErrLate},
		{"a phase ahead of another share", 0, otherReveals(0)[0], impl.ErrLate},
		{"a phase ahead of who is missing", 0, ending()[0], impl.ErrLate},
		{"a phase ahead of who is missing", 1, closing()[0], impl.ErrLate},
	} {
		t.Run(x.call, func(t *testing.T) { wantLastCode(t, 2, upToPhase(x.phase, 2), x.last, x.want) })
	}
	ahead := append(upToPhase(1, 2), actOf(impl.BeReveal, 0))
	wantLastCode(t, 2, ahead, otherReveals(0)[0], impl.ErrTwice)
	wantLastCode(t, 2, ahead, otherReveals(1)[0], impl.ErrSum)
}
