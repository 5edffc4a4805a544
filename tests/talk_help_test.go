package tests

import (
	"fmt"
	"slices"
	"testing"

	"loop.example/g00254/impl"
)

// saidTexts are different texts, the first of them empty.
func saidTexts(word string, count int) []string {
	out := make([]string, count)
	for i := range out {
		if i > 0 {
			out[i] = fmt.Sprint(word, " ", i)
		}
	}
	return out
}

// peerOf has as many texts as are told, the last ones of MaxBody bytes.
func peerOf(queue, seq, expect, inbox int) impl.Peer {
	p := impl.Peer{Queue: saidTexts("queued", queue), Seq: seq, Expect: expect, Inbox: saidTexts("heard", inbox)}
	for _, list := range [][]string{p.Queue, p.Inbox} {
		if len(list) > 1 {
			list[len(list)-1] = someText(40)
		}
	}
	return p
}

func samePeer(p, q impl.Peer) bool {
	return slices.Equal(p.Queue, q.Queue) && p.Seq == q.Seq && p.Expect == q.Expect && slices.Equal(p.Inbox, q.Inbox)
}

func copyOfPeer(p impl.Peer) impl.Peer {
	p.Queue, p.Inbox = slices.Clone(p.Queue), slices.Clone(p.Inbox)
	return p
}

// peerTold is the empty text of a peer that is zero, as it comes beside a code.
func peerTold(p impl.Peer) string {
	if samePeer(p, impl.Peer{}) {
		return ""
	}
	return fmt.Sprintf("queue of %d %.300q, seq %d, expect %d, inbox of %d %.3000q", len(p.Queue), p.Queue, p.Seq, p.Expect, len(p.Inbox), p.Inbox)
}

// rightPeer counts what is right of the parts of a peer.
func rightPeer(p impl.Peer) bool {
	right := 0
	for _, part := range []bool{
		len(p.Queue) < 9, len(p.Inbox) < 101, len(longestOf(p.Queue)) < 41, len(longestOf(p.Inbox)) < 41, within(p.Seq, 65535), within(p.Expect, 65535),
	} {
		if part {
			right++
		}
	}
	return right == 6
}

func rightFrame(f impl.Frame) bool {
	if !f.Has && f.Body != "" {
		return false
	}
	return within(f.Seq, 65535) && within(f.Ack, 65535) && len(f.Body) < 41
}

// changedPeer is a peer with a part that stands at one of its ends, or beyond it.
type changedPeer struct {
	name string
	p    impl.Peer
}

// edgePeers have one part each that stands at an end or one beyond it; texts stand first and last.
func edgePeers() []changedPeer {
	var out []changedPeer
	add := func(p impl.Peer, what ...any) { out = append(out, changedPeer{fmt.Sprintln(what...), p}) }
	for _, n := range []int{0, 1, 7, 8, 9, 10, 100, impl.MaxList, impl.MaxList + 1} {
		add(peerOf(n, 5, 6, 3), "queue of", n)
	}
	for _, n := range []int{0, 1, 9, 99, 100, 101, 102, impl.MaxList, impl.MaxList + 1} {
		add(peerOf(3, 5, 6, n), "inbox of", n)
	}
	for _, n := range append(farNumbers(), -1, 0, 1, 65534, 65535, 65536, 65537) {
		add(peerOf(3, n, 6, 3), "seq", n)
		add(peerOf(3, 5, n, 3), "expect", n)
	}
	for _, n := range []int{0, 1, 39, 40, 41, 42, impl.MaxText, impl.MaxText + 1} {
		for _, at := range []int{0, 1, 7} {
			p := peerOf(8, 5, 6, 100)
			p.Queue[at] = someText(n)
			add(p, "text", at, "of the queue of", n)
		}
		for _, at := range []int{0, 50, 99} {
			p := peerOf(8, 5, 6, 100)
			p.Inbox[at] = someText(n)
			add(p, "text", at, "of the inbox of", n)
		}
	}
	return out
}

// edgeFrames stand at an end of each part or beyond it, right ones and wrong ones.
func edgeFrames() []impl.Frame {
	var out []impl.Frame
	for _, seq := range edgeSeqs() {
		for _, ack := range edgeSeqs() {
			for _, body := range []int{0, 1, 40, 41, impl.MaxText, impl.MaxText + 1} {
				for _, has := range []bool{false, true} {
					out = append(out, impl.Frame{Seq: seq, Ack: ack, Has: has, Body: someText(body)})
				}
			}
		}
	}
	for _, n := range farNumbers() {
		out = append(out, impl.Frame{Seq: n, Ack: 1, Has: true, Body: "text"}, impl.Frame{Seq: 1, Ack: n}, impl.Frame{Seq: n, Ack: n})
	}
	return out
}

func sayAct(who int, text string) impl.TalkAct {
	return impl.TalkAct{Kind: impl.TaSay, Who: who, Text: text}
}

func roundAct(loseA, loseB bool) impl.TalkAct {
	return impl.TalkAct{Kind: impl.TaRound, LoseA: loseA, LoseB: loseB}
}

func hangAct(who int) impl.TalkAct { return impl.TalkAct{Kind: impl.TaHang, Who: who} }

func roundActs(count int) []impl.TalkAct {
	return slices.Repeat([]impl.TalkAct{roundAct(false, false)}, count)
}

// side is one of two as it is to whoever sees both: what it said, how much of that has been heard, and how much of it it
// knows to be heard.
type side struct {
	said         []string
	heard, known int
}

// otherTalk has no frames: what comes through tells how much has been heard ahead of it.
type otherTalk [2]side

func (o *otherTalk) round(lost [2]bool) {
	was := *o
	for who, s := range was {
		if lost[who] {
			continue
		}
		if s.known == s.heard && s.heard < len(s.said) {
			o[who].heard++
		}
		o[1-who].known = was[1-who].heard
	}
}

func (o *otherTalk) do(a impl.TalkAct) int {
	if a.Kind == impl.TaRound {
		o.round([2]bool{a.LoseA, a.LoseB})
		return impl.OK
	}
	if a.Kind != impl.TaSay && a.Kind != impl.TaHang {
		return impl.ErrForm
	}
	if a.Who != 0 && a.Who != 1 {
		return impl.ErrRange
	}
	s := &o[a.Who]
	waiting := len(s.said) - s.known
	if a.Kind == impl.TaHang {
		s.said = s.said[:min(len(s.said), s.known+1)]
		return firstFault([]fault{{waiting == 0, impl.ErrNone}})
	}
	code := firstFault([]fault{{len(a.Text) > 40, impl.ErrRange}, {waiting == 8, impl.ErrQueue}})
	if code == impl.OK {
		s.said = append(slices.Clip(s.said), a.Text)
	}
	return code
}

func (o *otherTalk) peers() []impl.Peer {
	var out []impl.Peer
	for who, s := range o {
		other := o[1-who]
		out = append(out, impl.Peer{Queue: s.said[s.known:], Seq: s.known, Expect: other.heard, Inbox: other.said[:other.heard]})
	}
	return out
}

func otherTalkRun(acts []impl.TalkAct) ([]impl.Peer, []int) {
	var o otherTalk
	codes := make([]int, len(acts))
	for i, a := range acts {
		codes[i] = o.do(a)
	}
	return o.peers(), codes
}

func actsTold(acts []impl.TalkAct) string {
	return fmt.Sprintf("%d acts %.2000s", len(acts), fmt.Sprintf("%+v", acts))
}

// wantTalk holds a run against one that knows of no frames.
func wantTalk(t *testing.T, acts []impl.TalkAct) ([]impl.Peer, []int) {
	t.Helper()
	list, codes, code := impl.TalkRun(acts)
	want, wanted := otherTalkRun(acts)
	if code != impl.OK || !slices.EqualFunc(list, want, samePeer) || !slices.Equal(codes, wanted) {
		t.Fatalf("TalkRun of %s: %+v, codes %v, code %d; want %+v, codes %v", actsTold(acts), list, codes, code, want, wanted)
	}
	return list, codes
}

// saidBy are the texts of one whose acts were taken, in order.
func saidBy(who int, acts []impl.TalkAct, codes []int) []string {
	var out []string
	for i, a := range acts {
		if a.Kind == impl.TaSay && a.Who == who && codes[i] == impl.OK {
			out = append(out, a.Text)
		}
	}
	return out
}
