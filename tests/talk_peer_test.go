package tests

import (
	"slices"
	"strings"
	"testing"

	"loop.example/g00254/impl"
)

func wantSaid(t *testing.T, p impl.Peer, text string) impl.Peer {
	t.Helper()
	want := copyOfPeer(p)
	want.Queue = append(want.Queue, text)
	got, code := impl.PeerSay(p, text)
	if code != impl.OK || !samePeer(got, want) {
		t.Fatalf("PeerSay of %s; %d bytes %.50q: %s, code %d", peerTold(p), len(text), text, peerTold(got), code)
	}
	return got
}

// wantNotSaid asks for a code, and for what is answered beside it.
func wantNotSaid(t *testing.T, p impl.Peer, text string, beside impl.Peer, want int) {
	t.Helper()
	if got, code := impl.PeerSay(p, text); code != want || !samePeer(got, beside) {
		t.Errorf("PeerSay of %s; %d bytes: %s, code %d; want %s, code %d", peerTold(p), len(text), peerTold(got), code, peerTold(beside), want)
	}
}

func wantOut(t *testing.T, p impl.Peer, want impl.Frame, wanted int) {
	t.Helper()
	if got, code := impl.PeerOut(p); got != want || code != wanted {
		t.Errorf("PeerOut of %s: %+v, code %d; want %+v, code %d", peerTold(p), got, code, want, wanted)
	}
}

func wantIn(t *testing.T, p impl.Peer, f impl.Frame, want impl.Peer, wanted int) {
	t.Helper()
	if got, code := impl.PeerIn(p, f); code != wanted || !samePeer(got, want) {
		t.Errorf("PeerIn of %s; %+v: %s, code %d; want %s, code %d", peerTold(p), f, peerTold(got), code, peerTold(want), wanted)
	}
}

// fullPeer stands at the higher end of all its parts.
func fullPeer() impl.Peer {
	texts := slices.Repeat([]string{ones(40)}, 100)
	return impl.Peer{Queue: texts[:8], Seq: 65535, Expect: 65535, Inbox: texts}
}

func TestP16PeerOK(t *testing.T) {
	right := 0
	for _, x := range edgePeers() {
		if ok := impl.PeerOK(x.p); ok != rightPeer(x.p) {
			t.Errorf("PeerOK, %s: %v", x.name, ok)
		}
		if rightPeer(x.p) {
			right++
		}
	}
	if all := len(edgePeers()); right < 30 || right > all-30 {
		t.Errorf("%d of %d peers are right", right, all)
	}
}

// TestP16PeerOKOfEachPart writes out what the parts' ends are.
func TestP16PeerOKOfEachPart(t *testing.T) {
	for _, c := range []struct {
		name string
		p    impl.Peer
		want bool
	}{
		{"nothing", impl.Peer{}, true},
		{"a queue of 8", impl.Peer{Queue: make([]string, 8)}, true},
		{"a queue of 9", impl.Peer{Queue: make([]string, 9)}, false},
		{"an inbox of 9", impl.Peer{Inbox: make([]string, 9)}, true},
		{"an inbox of 100", impl.Peer{Inbox: make([]string, 100)}, true},
		{"an inbox of 101", impl.Peer{Inbox: make([]string, 101)}, false},
		{"40 bytes to say", impl.Peer{Queue: []string{"", noughts(40)}}, true},
		{"41 bytes to say", impl.Peer{Queue: []string{noughts(41), ""}}, false},
		{"41 bytes to say, last", impl.Peer{Queue: []string{"", noughts(41)}}, false},
		{"40 bytes heard", impl.Peer{Inbox: []string{"", noughts(40)}}, true},
		{"41 bytes heard", impl.Peer{Inbox: []string{noughts(41), ""}}, false},
		{"41 bytes heard, last", impl.Peer{Inbox: []string{"", noughts(41)}}, false},
		{"40 bytes of 20 runes", impl.Peer{Queue: []string{strings.Repeat("é", 20)}}, true},
		{"42 bytes of 21 runes", impl.Peer{Queue: []string{strings.Repeat("é", 21)}}, false},
		{"seq -1", impl.Peer{Seq: -1}, false},
		{"seq 65535", impl.Peer{Seq: 65535}, true},
		{"seq 65536", impl.Peer{Seq: 65536}, false},
		{"expect -1", impl.Peer{Expect: -1}, false},
		{"expect 65535", impl.Peer{Expect: 65535}, true},
		{"expect 65536", impl.Peer{Expect: 65536}, false},
		{"all at their ends", fullPeer(), true},
	} {
		if ok := impl.PeerOK(c.p); ok != c.want {
			t.Errorf("PeerOK of %s: %v", c.name, ok)
		}
	}
}

func TestP16PeerSay(t *testing.T) {
	for queue := range 8 {
		for _, text := range []string{"", "x", "two words", " ", "\x00", noughts(40), ones(39), ones(40), "queued 1", "a\nb", "\xff\xfe", "é"} {
			wantSaid(t, peerOf(queue, 0, 0, 0), text)
			wantSaid(t, peerOf(queue, 65535, 65535, 100), text)
			wantSaid(t, peerOf(queue, 7, 9, 3), text)
		}
	}
	p := impl.Peer{}
	for _, text := range []string{"one", "", "two", "two", "", ones(40), "three", "x"} {
		p = wantSaid(t, p, text)
	}
	wantNotSaid(t, p, "more", p, impl.ErrQueue)
}

// TestP16PeerSayAsItWas: a text that is too long comes ahead of a full queue, and both leave the peer as it was.
func TestP16PeerSayAsItWas(t *testing.T) {
	for _, n := range []int{41, 42, 400, impl.MaxText - 1, impl.MaxText} {
		for queue := range 9 {
			p := peerOf(queue, queue, 7, 10*queue)
			wantNotSaid(t, p, someText(n), p, impl.ErrRange)
		}
	}
	for _, p := range []impl.Peer{peerOf(8, 0, 0, 0), peerOf(8, 65535, 65535, 100), {Queue: make([]string, 8)}} {
		for _, n := range []int{0, 1, 39, 40} {
			wantNotSaid(t, p, someText(n), p, impl.ErrQueue)
		}
	}
}

func TestP16PeerSayOfWrongPeers(t *testing.T) {
	for _, x := range edgePeers() {
		for _, n := range []int{0, 1, 40, 41, impl.MaxText} {
			if !rightPeer(x.p) {
				wantNotSaid(t, x.p, someText(n), impl.Peer{}, impl.ErrBad)
			}
		}
		wantNotSaid(t, x.p, someText(impl.MaxText+1), impl.Peer{}, impl.ErrLong)
		wantNotSaid(t, x.p, noughts(2*impl.MaxText), impl.Peer{}, impl.ErrLong)
	}
}

func TestP16PeerOut(t *testing.T) {
	for _, first := range []string{"", "x", "two words", noughts(40), ones(40), "é"} {
		for _, behind := range []int{0, 1, 7} {
			for _, seq := range []int{0, 1, 9, 65534, 65535} {
				for _, expect := range []int{0, 2, 9, 65534, 65535} {
					p := peerOf(behind, seq, expect, seq%101)
					p.Queue = append([]string{first}, p.Queue...)
					wantOut(t, p, impl.Frame{Seq: seq, Ack: expect, Has: true, Body: first}, impl.OK)
					p.Queue = nil
					wantOut(t, p, impl.Frame{Seq: seq, Ack: expect}, impl.OK)
				}
			}
		}
	}
	wantOut(t, impl.Peer{}, impl.Frame{}, impl.OK)
	wantOut(t, impl.Peer{Inbox: []string{"heard"}}, impl.Frame{}, impl.OK)
}

func TestP16PeerOutOfWrongPeers(t *testing.T) {
	for _, x := range edgePeers() {
		if !rightPeer(x.p) {
			wantOut(t, x.p, impl.Frame{}, impl.ErrBad)
			continue
		}
		want := impl.Frame{Seq: x.p.Seq, Ack: x.p.Expect, Has: len(x.p.Queue) > 0}
		if want.Has {
			want.Body = x.p.Queue[0]
		}
		wantOut(t, x.p, want, impl.OK)
	}
}

// TestP16PeerIn writes out what a frame does at each of the ends that the chapter names.
func TestP16PeerIn(t *testing.T) {
	for _, c := range []struct {
		name        string
		p           impl.Peer
		f           impl.Frame
		hears, goes bool
	}{
		{"expected", peerOf(0, 0, 0, 0), impl.Frame{Has: true, Body: "new"}, true, false},
		{"expected, later", peerOf(0, 4, 7, 7), impl.Frame{Seq: 7, Has: true, Body: "new"}, true, false},
		{"expected and empty", peerOf(0, 0, 3, 3), impl.Frame{Seq: 3, Has: true}, true, false},
		{"expected, of 40 bytes", peerOf(0, 0, 3, 3), impl.Frame{Seq: 3, Has: true, Body: ones(40)}, true, false},
		{"heard already", peerOf(0, 0, 1, 1), impl.Frame{Has: true, Body: "heard"}, false, false},
		{"one less", peerOf(0, 0, 7, 7), impl.Frame{Seq: 6, Has: true, Body: "new"}, false, false},
		{"one more", peerOf(0, 0, 7, 7), impl.Frame{Seq: 8, Has: true, Body: "new"}, false, false},
		{"without a body", peerOf(0, 0, 7, 7), impl.Frame{Seq: 7}, false, false},
		{"room for one", peerOf(0, 0, 7, 99), impl.Frame{Seq: 7, Has: true, Body: "new"}, true, false},
		{"no room", peerOf(0, 0, 7, 100), impl.Frame{Seq: 7, Has: true, Body: "new"}, false, false},
		{"expect at 65534", peerOf(0, 0, 65534, 1), impl.Frame{Seq: 65534, Has: true, Body: "new"}, true, false},
		{"expect at 65535", peerOf(0, 0, 65535, 1), impl.Frame{Seq: 65535, Has: true, Body: "new"}, false, false},
		{"ack is seq less 1", peerOf(2, 5, 0, 0), impl.Frame{Ack: 4}, false, false},
		{"ack is seq", peerOf(2, 5, 0, 0), impl.Frame{Ack: 5}, false, false},
		{"ack is seq and 1", peerOf(2, 5, 0, 0), impl.Frame{Ack: 6}, false, true},
		{"ack is seq and 2", peerOf(2, 5, 0, 0), impl.Frame{Ack: 7}, false, false},
		{"ack of the only one", peerOf(1, 0, 0, 0), impl.Frame{Ack: 1}, false, true},
		{"ack without a queue", peerOf(0, 5, 0, 0), impl.Frame{Ack: 6}, false, false},
		{"ack of a full queue", peerOf(8, 5, 0, 0), impl.Frame{Ack: 6}, false, true},
		{"ack is 65535", peerOf(2, 65534, 0, 0), impl.Frame{Ack: 65535}, false, true},
		{"seq at 65535", peerOf(2, 65535, 0, 0), impl.Frame{Ack: 65535}, false, false},
		{"seq at 65535, ack 0", peerOf(2, 65535, 0, 0), impl.Frame{}, false, false},
		{"both", peerOf(3, 5, 7, 7), impl.Frame{Seq: 7, Ack: 6, Has: true, Body: "new"}, true, true},
		{"both at their ends", peerOf(8, 65534, 65534, 99), impl.Frame{Seq: 65534, Ack: 65535, Has: true, Body: "new"}, true, true},
		{"ack beside what is heard already", peerOf(3, 5, 7, 7), impl.Frame{Seq: 6, Ack: 6, Has: true, Body: "old"}, false, true},
		{"ack where there is no room", peerOf(3, 5, 7, 100), impl.Frame{Seq: 7, Ack: 6, Has: true, Body: "new"}, false, true},
		{"a text beside another ack", peerOf(3, 5, 7, 7), impl.Frame{Seq: 7, Ack: 5, Has: true, Body: "new"}, true, false},
	} {
		want := copyOfPeer(c.p)
		if c.hears {
			want.Inbox, want.Expect = append(want.Inbox, c.f.Body), want.Expect+1
		}
		if c.goes {
			want.Queue, want.Seq = want.Queue[1:], want.Seq+1
		}
		if got, code := impl.PeerIn(c.p, c.f); code != impl.OK || !samePeer(got, want) {
			t.Errorf("PeerIn, %s: %s, code %d; want %s", c.name, peerTold(got), code, peerTold(want))
		}
	}
}

// otherIn counts what speaks for a text's being heard, and for one's going.
func otherIn(p impl.Peer, f impl.Frame) impl.Peer {
	out := copyOfPeer(p)
	if countOf(f.Has, f.Seq-p.Expect == 0, 100-len(p.Inbox) > 0, 65535-p.Expect > 0) == 4 {
		out.Inbox, out.Expect = append(out.Inbox, f.Body), out.Expect+1
	}
	if countOf(f.Ack-p.Seq == 1, len(p.Queue) > 0) == 2 {
		out.Queue, out.Seq = out.Queue[1:], out.Seq+1
	}
	return out
}

func countOf(list ...bool) int {
	count := 0
	for _, is := range list {
		if is {
			count++
		}
	}
	return count
}

// TestP16PeerInOfAllKinds puts all kinds of peers and frames together.
func TestP16PeerInOfAllKinds(t *testing.T) {
	numbers := []int{0, 1, 2, 3, 65533, 65534, 65535}
	for _, queue := range []int{0, 1, 8} {
		for _, inbox := range []int{0, 1, 99, 100} {
			for _, seq := range numbers {
				for _, expect := range numbers {
					p := peerOf(queue, seq, expect, inbox)
					for _, of := range numbers {
						for _, ack := range numbers {
							for _, f := range []impl.Frame{{Seq: of, Ack: ack}, {Seq: of, Ack: ack, Has: true}, {Seq: of, Ack: ack, Has: true, Body: "new"}} {
								wantIn(t, p, f, otherIn(p, f), impl.OK)
							}
						}
					}
				}
			}
		}
	}
}

// TestP16PeerInAgain: a frame that comes again is heard once, and lets one go.
func TestP16PeerInAgain(t *testing.T) {
	p := peerOf(3, 5, 7, 7)
	f := impl.Frame{Seq: 7, Ack: 6, Has: true, Body: "new"}
	once, _ := impl.PeerIn(p, f)
	for range 3 {
		wantIn(t, once, f, once, impl.OK)
	}
}

func TestP16PeerInOfWrongOnes(t *testing.T) {
	f := impl.Frame{Seq: 6, Ack: 6, Has: true, Body: "new"}
	for _, x := range edgePeers() {
		if rightPeer(x.p) {
			wantIn(t, x.p, f, otherIn(x.p, f), impl.OK)
		} else {
			wantIn(t, x.p, f, impl.Peer{}, impl.ErrBad)
			wantIn(t, x.p, impl.Frame{}, impl.Peer{}, impl.ErrBad)
		}
	}
	for _, p := range []impl.Peer{{}, peerOf(3, 5, 6, 6), peerOf(8, 65535, 65535, 100), peerOf(1, 65534, 65535, 0)} {
		for _, f := range edgeFrames() {
			if rightFrame(f) {
				wantIn(t, p, f, otherIn(p, f), impl.OK)
			} else {
				wantIn(t, p, f, impl.Peer{}, impl.ErrBad)
			}
		}
	}
}
