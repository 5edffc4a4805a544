package tests

import (
	"encoding/binary"
	"fmt"
	"slices"
	"strings"
	"testing"

	"loop.example/g00254/impl"
)

// beaconSeed is drawn by three servers.
func beaconSeed(t *testing.T) string {
	t.Helper()
	acts := slices.Concat(actsOf(impl.BeCommit, 3), []impl.BeaconAct{{Kind: impl.BeClose}}, actsOf(impl.BeReveal, 3), []impl.BeaconAct{{Kind: impl.BeEnd}})
	b, _, _ := impl.BeaconRun(3, acts)
	seed, code := impl.BeaconValue(b)
	if code != impl.OK {
		t.Error("BeaconValue", code)
	}
	return seed
}

// frameText is a frame as the body of a round, which leaves 15 bytes for what is said.
func frameText(f impl.Frame) string {
	b := binary.BigEndian.AppendUint16(nil, uint16(f.Seq))
	b = binary.BigEndian.AppendUint16(b, uint16(f.Ack))
	if f.Has {
		b = append(b, 1)
	}
	return string(b) + f.Body
}

// frameIn says of the empty text that no frame came.
func frameIn(text string) (f impl.Frame, came bool) {
	if len(text) < 4 {
		return f, false
	}
	f.Seq, f.Ack = int(binary.BigEndian.Uint16([]byte(text))), int(binary.BigEndian.Uint16([]byte(text[2:])))
	if f.Has = len(text) > 4; f.Has {
		f.Body = text[5:]
	}
	return f, true
}

// crowd are users who talk by whole rounds: each sends its frame as its body and takes what it reads.
type crowd struct {
	spec  impl.RoundSpec
	peers []impl.Peer
	said  [][]string
}

func crowdOf(t *testing.T, layers, mean int, partner ...int) *crowd {
	t.Helper()
	r := roundOf(layers, mean, partner...)
	r.Seed, r.Round = beaconSeed(t), 0
	return &crowd{r, make([]impl.Peer, len(partner)), make([][]string, len(partner))}
}

func (c *crowd) say(t *testing.T, user int, text string) int {
	t.Helper()
	p, code := impl.PeerSay(c.peers[user], text)
	if code == impl.OK {
		c.said[user] = append(c.said[user], text)
	}
	c.peers[user] = p
	return code
}

// bodies are the frames of all, made ahead of any being taken.
func (c *crowd) bodies(t *testing.T) []string {
	t.Helper()
	var out []string
	for _, p := range c.peers {
		f, code := impl.PeerOut(p)
		if code != impl.OK {
			t.Error("PeerOut", code)
		}
		out = append(out, frameText(f))
	}
	return out
}

func (c *crowd) prepare(t *testing.T) {
	t.Helper()
	c.spec.Round++
	c.spec.Bodies = c.bodies(t)
}

// run loses what those of deaf read.
func (c *crowd) run(t *testing.T, deaf ...int) impl.RoundOut {
	t.Helper()
	x, code := impl.RunRound(c.spec)
	if code != impl.OK {
		t.Error("RunRound", code)
	}
	for user, text := range x.Inbox {
		f, came := frameIn(text)
		if !came || slices.Contains(deaf, user) {
			continue
		}
		p, code := impl.PeerIn(c.peers[user], f)
		if code != impl.OK {
			t.Error("PeerIn", code)
		}
		c.peers[user] = p
	}
	return x
}

func (c *crowd) round(t *testing.T, deaf ...int) impl.RoundOut {
	t.Helper()
	c.prepare(t)
	return c.run(t, deaf...)
}

// cutBoth looks for a cut by which neither of two reads anything.
func cutBoth(t *testing.T, r impl.RoundSpec) impl.RoundSpec {
	t.Helper()
	for r.Cut = range r.Layers {
		for r.CutAt = range 17 {
			if slices.Equal(otherRound(t, r).Inbox, []string{"", ""}) {
				return r
			}
		}
	}
	t.Error("no cut takes both bodies away:", roundTold(r))
	return r
}

// roundForNobody is one in which a server cuts so that neither of two reads anything.
func (c *crowd) roundForNobody(t *testing.T) {
	t.Helper()
	c.prepare(t)
	c.spec = cutBoth(t, c.spec)
	c.run(t)
	c.spec.Cut = -1
}

// wantHeardOnly asks that what is heard is what the partner said, in order and none twice, and how much of it there is.
func (c *crowd) wantHeardOnly(t *testing.T, least int) {
	t.Helper()
	for user, other := range c.spec.Partner {
		heard := c.peers[user].Inbox
		if user == other {
			if len(heard) != 0 {
				t.Errorf("user %d of %v is idle and hears %q", user, c.spec.Partner, heard)
			}
			continue
		}
		said := c.said[other]
		if len(heard) > len(said) || len(heard) < min(least, len(said)) || !slices.Equal(heard, said[:len(heard)]) {
			t.Errorf("of %q user %d of %v hears %q", said, user, c.spec.Partner, heard)
		}
	}
}

func allMatchings() [][]int {
	var out [][]int
	eachMatching(func(partner []int) { out = append(out, partner) })
	return out
}

// idleTwin is the same round in which nobody talks.
func idleTwin(r impl.RoundSpec) impl.RoundSpec {
	r.Partner = nil
	for user := range r.Bodies {
		r.Partner = append(r.Partner, user)
	}
	return r
}

// TestP18RoundByRound: each hears what its partner said where nothing is cut, and what is seen is that of as many who are
// idle.
func TestP18RoundByRound(t *testing.T) {
	t.Parallel()
	besideEachOther(allMatchings(), func(partner []int) {
		for layers := 1; layers <= 2; layers++ {
			c := crowdOf(t, layers, 1, partner...)
			for user := range partner {
				for i := range 3 {
					c.say(t, user, fmt.Sprintf("%d of %d", i, user))
				}
			}
			for rounds := 1; rounds <= 6; rounds++ {
				x := c.round(t)
				twin, _ := impl.RunRound(idleTwin(c.spec))
				if x.Aborted || x.Blamed != -1 || x.Seen != twin.Seen || x.Noise != twin.Noise {
					t.Errorf("round %d of %v: %+v; of as many who are idle %+v", rounds, partner, x, twin)
				}
				for user, other := range partner {
					if user != other && x.Inbox[user] != c.spec.Bodies[other] {
						t.Errorf("round %d of %v: user %d reads %q", rounds, partner, user, x.Inbox[user])
					}
				}
				c.wantHeardOnly(t, (rounds+1)/2)
			}
			for user, other := range partner {
				if left := len(c.peers[user].Queue); left != 0 && user != other {
					t.Errorf("user %d of %v has %d left to say", user, partner, left)
				}
			}
		}
	})
}

// TestP18WhateverIsCut lets a server cut in each round: what is heard is right all the same, who cuts noise is blamed, and
// once nothing is cut all arrives.
func TestP18WhateverIsCut(t *testing.T) {
	t.Parallel()
	besideEachOther([][]int{{1, 0}, {0, 2, 1}, {1, 0, 3, 2}, {3, 1, 2, 0}}, func(partner []int) {
		c := crowdOf(t, 2, 1, partner...)
		aborted, lost := 0, 0
		for i := range 24 {
			if i%4 == 0 {
				for user := range partner {
					c.say(t, user, fmt.Sprintf("%d of %d", i, user))
				}
			}
			c.spec.Cut, c.spec.CutAt = i%2, (7*i)%10
			x := c.round(t)
			if x.Aborted {
				aborted++
			} else if slices.Contains(x.Inbox, "") {
				lost++
			}
			if x.Aborted && x.Blamed != c.spec.Cut || !x.Aborted && x.Blamed != -1 {
				t.Errorf("RunRound, %s: %+v", roundTold(c.spec), x)
			}
			c.wantHeardOnly(t, 0)
		}
		if aborted == 0 || lost == 0 {
			t.Errorf("of %v %d rounds were aborted, %d lost a body", partner, aborted, lost)
		}
		c.spec.Cut = -1
		for range 17 {
			c.round(t)
		}
		c.wantHeardOnly(t, 6)
	})
}

// wantDropsDiffer makes sure of what the promise asks for: no drop of a round is one of another pair or of noise.
func wantDropsDiffer(t *testing.T, r impl.RoundSpec) {
	t.Helper()
	plan, _ := impl.RoundNoise(r)
	users, _ := impl.PlanDrops(r.Seed, r.Round, r.Partner)
	noise, _ := impl.NoiseDrops(r.Seed, r.Round, plan)
	drops := slices.Concat(users, noise)
	slices.Sort(drops)
	if different := len(slices.Compact(drops)); different != len(r.Partner)+plan.Singles+plan.Pairs {
		t.Errorf("%s: %d different drops", roundTold(r), different)
	}
}

// TestP18AnyTwoMatchingsLookAlike: of as many users, whatever they say, in the same round with the same seed.
func TestP18AnyTwoMatchingsLookAlike(t *testing.T) {
	t.Parallel()
	type place struct{ users, layers, mean, round int }
	var places []place
	for users := range 5 {
		for layers := 1; layers <= 2; layers++ {
			places = append(places, place{users, layers, 0, 0}, place{users, layers, 1, 1}, place{users, layers, 1, 1000000})
		}
	}
	besideEachOther(places, func(p place) {
		var first impl.RoundOut
		for i, partner := range matchingsOf(p.users) {
			r := roundOf(p.layers, p.mean, partner...)
			r.Seed, r.Round = beaconSeed(t), p.round
			r.Bodies = slices.Repeat([]string{strings.Repeat("x", i)}, p.users)
			wantDropsDiffer(t, r)
			x := wantAllRead(t, r)
			if i == 0 {
				first = x
			}
			if x.Seen != first.Seen || x.Noise != first.Noise || x.Seen.More != 0 || x.Seen.Twos != p.users+x.Noise.Pairs {
				t.Errorf("%s: %+v is seen, of those who are idle %+v", roundTold(r), x.Seen, first.Seen)
			}
		}
	})
}

// TestP18WhoLosesNoiseEndsTheRound: at each place of each layer; the next round, in which nothing is cut, is as if nothing
// had been.
func TestP18WhoLosesNoiseEndsTheRound(t *testing.T) {
	t.Parallel()
	besideEachOther([][]int{nil, {0}, {1, 0}, {2, 1, 0}, {2, 3, 0, 1}}, func(partner []int) {
		for layers := 1; layers <= 2; layers++ {
			r := roundOf(layers, 1, partner...)
			r.Seed = beaconSeed(t)
			r = withPlan(t, r, impl.NoisePlan{Singles: 1, Pairs: 1})
			whole := wantAllRead(t, r)
			for r.Cut = range layers {
				aborted := 0
				for r.CutAt = range 17 {
					x, code := impl.RunRound(r)
					if code != impl.OK {
						t.Error("RunRound", code)
					}
					if !x.Aborted {
						continue
					}
					aborted++
					if x.Blamed != r.Cut || x.Seen != (impl.Histogram{}) || strings.Join(x.Inbox, "") != "" || x.Noise != whole.Noise {
						t.Errorf("RunRound, %s: %+v", roundTold(r), x)
					}
				}
				if aborted != 3 {
					t.Errorf("RunRound, %s: %d of 3 noises were missed", roundTold(r), aborted)
				}
			}
			r.Cut, r.CutAt = -1, 0
			if x := wantAllRead(t, r); !sameRound(x, whole) {
				t.Errorf("RunRound, %s: %+v, ahead of the cuts %+v", roundTold(r), x, whole)
			}
		}
	})
}

// do is an act of two who talk by whole rounds.
func (c *crowd) do(t *testing.T, act impl.TalkAct) int {
	t.Helper()
	switch {
	case act.Kind == impl.TaSay:
		return c.say(t, act.Who, act.Text)
	case act.LoseA && act.LoseB:
		c.roundForNobody(t)
	case act.LoseA:
		c.round(t, 1)
	case act.LoseB:
		c.round(t, 0)
	default:
		c.round(t)
	}
	return impl.OK
}

// saidByRounds is what a console would say if its two talked by whole rounds.
func saidByRounds(t *testing.T, lines []string) string {
	t.Helper()
	c := crowdOf(t, 2, 1, 1, 0)
	said := ""
	for _, line := range lines {
		if line == "queue" {
			said += fmt.Sprintln(len(c.peers[0].Queue), len(c.peers[1].Queue))
			continue
		}
		act, _ := impl.ReadLine(line)
		before := slices.Clone(c.peers)
		if code := c.do(t, act); code != impl.OK {
			said += "error " + impl.CodeWord(code) + "\n"
			continue
		}
		for who, p := range c.peers {
			for _, text := range p.Inbox[len(before[who].Inbox):] {
				said += []string{"a", "b"}[who] + " hears " + text + "\n"
			}
		}
		said += "ok\n"
	}
	return said
}

// TestP18ConsoleAsOverRounds: two who talk by whole rounds hear what two of a console hear, line by line.
func TestP18ConsoleAsOverRounds(t *testing.T) {
	t.Parallel()
	var scripts [][]string
	for k := range 16 {
		lines := slices.DeleteFunc(someLines(50, 90, someBytes(600+k)), func(line string) bool {
			return line != "queue" && !strings.HasPrefix(line, "round") && !strings.HasPrefix(line, "say a") && !strings.HasPrefix(line, "say b") || len(line) > 20 ||
				slices.Contains(wrongLines(), line)
		})
		scripts = append(scripts, lines)
	}
	besideEachOther(scripts, func(lines []string) {
		want, _ := impl.Console(linesText(lines, false))
		if said := saidByRounds(t, lines); said != want {
			t.Errorf("of %q over rounds %q is said; by the console %q", lines, said, want)
		}
	})
}

// TestP18PostedBatchesOnABoard: what the servers of a round post is committed to, read back, and proved item by item; what
// a server leaves out is not there.
func TestP18PostedBatchesOnABoard(t *testing.T) {
	t.Parallel()
	want := must(t)
	r := withPlan(t, roundOf(2, 1, 1, 0, 2), impl.NoisePlan{Singles: 1, Pairs: 1})
	_, mixes := ownBatches(t, r)
	r.CutAt = 4
	for r.Cut = range 2 {
		var board []impl.Post
		posted := postedBatches(t, r, mixes)
		for layer, items := range posted {
			root := want(impl.ItemRoot(items))
			var code int
			if board, code = impl.BoardAdd(board, impl.Post{Round: r.Round, Layer: layer, Root: root}); code != impl.OK {
				t.Fatal("BoardAdd", code)
			}
			b, _ := impl.BatchBytes(impl.Batch{Round: r.Round, Layer: layer, Items: items})
			if x, code := impl.ReadBatch(b); code != impl.OK || !slices.Equal(x.Items, items) {
				t.Errorf("ReadBatch: %d items, code %d", len(x.Items), code)
			}
			cut := mixes[layer].mix.Items[4]
			for at, item := range items {
				proof, _ := impl.ProveItem(items, at)
				found := want(impl.BoardFind(board, r.Round, layer))
				if code := impl.CheckItem(found, item, at, len(items), proof); code != impl.OK {
					t.Errorf("item %d of layer %d: code %d", at, layer, code)
				}
				if code := impl.CheckItem(found, cut, at, len(items), proof); layer == r.Cut && code != impl.ErrRoot {
					t.Errorf("what was cut of layer %d is proved at %d: code %d", layer, at, code)
				}
			}
		}
		if !impl.BoardOK(board) || len(board) != 2 || len(posted[1]) != 8 {
			t.Errorf("cut %d: %d posts, %d items posted last", r.Cut, len(board), len(posted[1]))
		}
	}
}
