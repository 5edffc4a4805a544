package tests

import (
	"fmt"
	"math"
	"slices"
	"testing"

	"loop.example/g00254/impl"
)

// talkArgs are what the functions of the chapter are handed, each of them some.
type talkArgs struct {
	p    impl.Peer
	text string
	f    impl.Frame
	acts []impl.TalkAct
}

func (a talkArgs) String() string {
	return fmt.Sprintf("%.500s; text of %d bytes; %.200s; %.500s", peerTold(a.p), len(a.text), fmt.Sprintf("%+v", a.f), actsTold(a.acts))
}

// talkCall tells an answer as a text, the empty one of a zero answer; its faults stand as the chapter names them. Beside
// those of asItWas the peer is answered as it was.
type talkCall struct {
	name    string
	call    func(a talkArgs) (string, int)
	faults  func(a talkArgs) []fault
	asItWas []int
}

func peerOKCall() talkCall {
	return talkCall{"PeerOK", func(a talkArgs) (string, int) {
		ok := impl.PeerOK(a.p)
		if ok == rightPeer(a.p) {
			return "", impl.OK
		}
		return fmt.Sprint(ok), -1
	}, func(a talkArgs) []fault { return nil }, nil}
}

func peerSayCall() talkCall {
	return talkCall{"PeerSay", func(a talkArgs) (string, int) {
		p, code := impl.PeerSay(a.p, a.text)
		return peerTold(p), code
	}, func(a talkArgs) []fault {
		return []fault{
			{len(a.text) > 65536, impl.ErrLong}, {!rightPeer(a.p), impl.ErrBad}, {len(a.text) > 40, impl.ErrRange}, {len(a.p.Queue) == 8, impl.ErrQueue},
		}
	}, []int{impl.ErrRange, impl.ErrQueue}}
}

func peerOutCall() talkCall {
	return talkCall{"PeerOut", func(a talkArgs) (string, int) {
		f, code := impl.PeerOut(a.p)
		return toldUnlessZero(f == impl.Frame{}, f), code
	}, func(a talkArgs) []fault { return []fault{{!rightPeer(a.p), impl.ErrBad}} }, nil}
}

func peerInCall() talkCall {
	return talkCall{"PeerIn", func(a talkArgs) (string, int) {
		p, code := impl.PeerIn(a.p, a.f)
		return peerTold(p), code
	}, func(a talkArgs) []fault { return []fault{{!rightPeer(a.p) || !rightFrame(a.f), impl.ErrBad}} }, nil}
}

func talkRunCall() talkCall {
	return talkCall{"TalkRun", func(a talkArgs) (string, int) {
		list, codes, code := impl.TalkRun(a.acts)
		if len(list) == 0 && len(codes) == 0 {
			return "", code
		}
		out := fmt.Sprintln(codes)
		for _, p := range list {
			out += fmt.Sprintln(peerTold(p))
		}
		return out, code
	}, func(a talkArgs) []fault {
		long := slices.ContainsFunc(a.acts, func(x impl.TalkAct) bool { return len(x.Text) > 65536 })
		return []fault{{len(a.acts) > 4096, impl.ErrLong}, {len(a.acts) > 120, impl.ErrMany}, {long, impl.ErrLong}}
	}, nil}
}

func talkCalls() []talkCall {
	return []talkCall{peerOKCall(), peerSayCall(), peerOutCall(), peerInCall(), talkRunCall()}
}

func wantTalkCode(t *testing.T, f talkCall, a talkArgs) {
	t.Helper()
	want, beside := firstFault(f.faults(a)), ""
	if slices.Contains(f.asItWas, want) {
		beside = peerTold(a.p)
	}
	got, code := f.call(a)
	if code != want || code != impl.OK && got != beside {
		t.Errorf("%s of %s: %.200q, code %d; want code %d", f.name, a, got, code, want)
	}
}

// codeActs have all lengths at which a code changes, and texts that are too long at both ends.
func codeActs() [][]impl.TalkAct {
	var out [][]impl.TalkAct
	for _, count := range []int{0, 1, 2, 119, 120, 121, 122, impl.MaxList, impl.MaxList + 1} {
		out = append(out, roundActs(count), make([]impl.TalkAct, count))
		for _, at := range []int{0, count - 1} {
			for _, n := range []int{40, 41, impl.MaxText, impl.MaxText + 1} {
				if at >= 0 && at < count {
					acts := roundActs(count)
					acts[at] = sayAct(0, someText(n))
					out = append(out, acts)
				}
			}
		}
	}
	return out
}

// TestP1TalkCodes holds each code against the first fault that the chapter names, over all that may be wrong together.
func TestP1TalkCodes(t *testing.T) {
	frames := []impl.Frame{{}, {Seq: 6, Ack: 6, Has: true, Body: "new"}, {Seq: -1}, {Ack: 65536}, {Body: "x"}, {Has: true, Body: ones(41)}, {Has: true, Body: ones(40)}}
	texts := []string{"", "x", ones(40), ones(41), ones(impl.MaxText), ones(impl.MaxText + 1)}
	for _, x := range edgePeers() {
		for i, text := range texts {
			for k, f := range frames {
				a := talkArgs{p: x.p, text: text, f: f}
				wantTalkCode(t, peerSayCall(), a)
				wantTalkCode(t, peerInCall(), a)
				if i+k == 0 {
					wantTalkCode(t, peerOKCall(), a)
					wantTalkCode(t, peerOutCall(), a)
				}
			}
		}
	}
	for _, f := range edgeFrames() {
		wantTalkCode(t, peerInCall(), talkArgs{p: peerOf(2, 0, 65535, 3), f: f})
	}
	for _, acts := range codeActs() {
		wantTalkCode(t, talkRunCall(), talkArgs{acts: acts})
	}
}

// someTalkArgs are right for each call.
func someTalkArgs() talkArgs {
	return talkArgs{
		peerOf(4, 5, 7, 9), "a new text", impl.Frame{Seq: 7, Ack: 6, Has: true, Body: "comes in"},
		[]impl.TalkAct{sayAct(0, "one"), sayAct(0, "two"), sayAct(1, "eins"), roundAct(false, true), roundAct(false, false), hangAct(1), sayAct(0, "three")},
	}
}

// own has lists that may be written into.
func (a talkArgs) own() talkArgs {
	a.p, a.acts = copyOfPeer(a.p), slices.Clone(a.acts)
	return a
}

// TestP1TalksAtBothEndsOfInt puts the least and the greatest int into each place and into two together.
func TestP1TalksAtBothEndsOfInt(t *testing.T) {
	ends := []int{math.MinInt, math.MinInt + 1, math.MinInt / 2, -1, 65534, 65535, 65536, math.MaxInt / 2, math.MaxInt - 1, math.MaxInt}
	places := []func(a *talkArgs, n int){
		func(a *talkArgs, n int) { a.p.Seq = n }, func(a *talkArgs, n int) { a.p.Expect = n },
		func(a *talkArgs, n int) { a.f.Seq = n }, func(a *talkArgs, n int) { a.f.Ack = n },
		func(a *talkArgs, n int) { a.acts[0].Kind = n }, func(a *talkArgs, n int) { a.acts[0].Who = n },
		func(a *talkArgs, n int) { a.acts[5].Kind = n }, func(a *talkArgs, n int) { a.acts[5].Who = n },
		func(a *talkArgs, n int) { a.acts[3].Kind = n }, func(a *talkArgs, n int) { a.acts[3].Who = n },
	}
	for _, end := range ends {
		for i, put := range places {
			for _, putOther := range places[i:] {
				for _, other := range ends {
					a := someTalkArgs().own()
					putOther(&a, other)
					put(&a, end)
					for _, f := range talkCalls() {
						wantTalkCode(t, f, a)
					}
					if rightPeer(a.p) && rightFrame(a.f) {
						wantIn(t, a.p, a.f, otherIn(a.p, a.f), impl.OK)
					}
					wantTalk(t, a.acts)
				}
			}
		}
	}
}

// TestP1TextsWithinAPeer: what lies within a peer or a frame is bounded by its rule alone, so that nothing of it is ErrLong.
func TestP1TextsWithinAPeer(t *testing.T) {
	long := noughts(impl.MaxText + 1)
	for _, change := range []func(a *talkArgs){
		func(a *talkArgs) { a.p.Queue[0] = long },
		func(a *talkArgs) { a.p.Queue[3] = long },
		func(a *talkArgs) { a.p.Inbox[0] = long },
		func(a *talkArgs) { a.p.Inbox[8] = long },
		func(a *talkArgs) { a.p.Queue = make([]string, impl.MaxList+1) },
		func(a *talkArgs) { a.p.Inbox = make([]string, impl.MaxList+1) },
		func(a *talkArgs) { a.p.Inbox = slices.Repeat([]string{long}, impl.MaxList+1) },
	} {
		a := someTalkArgs().own()
		change(&a)
		for _, f := range []talkCall{peerSayCall(), peerOutCall(), peerInCall()} {
			if got, code := f.call(a); code != impl.ErrBad || got != "" {
				t.Errorf("%s of %s: %.100q, code %d", f.name, a, got, code)
			}
		}
	}
	wantIn(t, someTalkArgs().p, impl.Frame{Seq: 7, Has: true, Body: long}, impl.Peer{}, impl.ErrBad)
}

// manyTalkArgs are right and wrong ones.
func manyTalkArgs() []talkArgs {
	some := someTalkArgs()
	out := []talkArgs{{}, some}
	texts := []string{"", "x", ones(40), ones(41), ones(impl.MaxText + 1)}
	for i, x := range edgePeers() {
		with := some.own()
		with.p, with.text, with.acts = x.p, texts[i%len(texts)], someTalk(1+i, 128, 20, someBytes(400+i))
		if i%4 == 0 {
			with.f = edgeFrames()[i]
		}
		out = append(out, with)
	}
	for _, acts := range [][]impl.TalkAct{roundActs(121), {sayAct(0, ones(impl.MaxText+1))}, {sayAct(0, ones(41)), hangAct(2), {Kind: 4}}} {
		with := some
		with.p, with.acts = peerOf(8, 5, 7, 99), acts
		out = append(out, with)
	}
	return out
}

func guardedTalk(acts []impl.TalkAct) (inside, whole []impl.TalkAct) {
	whole = slices.Concat([]impl.TalkAct{sayAct(0, "ahead"), hangAct(0)}, acts, slices.Repeat([]impl.TalkAct{sayAct(1, "behind")}, 9))
	return whole[2 : 2+len(acts)], whole
}

// talkGuards are what the lists of arguments lie in.
type talkGuards struct {
	queue, inbox []string
	acts         []impl.TalkAct
}

func (g talkGuards) same(other talkGuards) bool {
	return slices.Equal(g.queue, other.queue) && slices.Equal(g.inbox, other.inbox) && slices.Equal(g.acts, other.acts)
}

// guardedIn has the lists in the middle of others whose other elements no call has to do with.
func (a talkArgs) guardedIn() (inside talkArgs, g talkGuards) {
	inside = a
	inside.p.Queue, g.queue = guardedItems(a.p.Queue)
	inside.p.Inbox, g.inbox = guardedItems(a.p.Inbox)
	inside.acts, g.acts = guardedTalk(a.acts)
	return inside, g
}

// tight has lists without any room behind.
func (a talkArgs) tight() talkArgs {
	a.p.Queue, a.p.Inbox, a.acts = slices.Clip(slices.Clone(a.p.Queue)), slices.Clip(slices.Clone(a.p.Inbox)), slices.Clip(slices.Clone(a.acts))
	return a
}

func TestP1TalksAreNotWrittenIntoNorReadBehind(t *testing.T) {
	for _, a := range manyTalkArgs() {
		for _, f := range talkCalls() {
			inside, g := a.guardedIn()
			got, code := f.call(inside)
			if _, want := a.guardedIn(); !g.same(want) {
				t.Errorf("%s of %s wrote into its lists, or around them", f.name, a)
			}
			if want, wanted := f.call(a.tight()); got != want || code != wanted {
				t.Errorf("%s of %s has another answer with others behind", f.name, a)
			}
		}
	}
}

// peerAnswers are all ways to be answered a peer, those as it was among them.
func peerAnswers() map[string]func(p impl.Peer) (impl.Peer, int) {
	in := func(f impl.Frame) func(p impl.Peer) (impl.Peer, int) {
		return func(p impl.Peer) (impl.Peer, int) { return impl.PeerIn(p, f) }
	}
	say := func(text string) func(p impl.Peer) (impl.Peer, int) {
		return func(p impl.Peer) (impl.Peer, int) { return impl.PeerSay(p, text) }
	}
	return map[string]func(p impl.Peer) (impl.Peer, int){
		"PeerSay": say("text"), "PeerSay of too long a text": say(ones(41)), "PeerIn of nothing": in(impl.Frame{}),
		"PeerIn of a text":      in(impl.Frame{Seq: 7, Has: true, Body: "new"}),
		"PeerIn of an ack":      in(impl.Frame{Seq: 7, Ack: 6}),
		"PeerIn of both":        in(impl.Frame{Seq: 7, Ack: 6, Has: true, Body: "new"}),
		"PeerIn of an old text": in(impl.Frame{Seq: 6, Ack: 5, Has: true, Body: "old"}),
	}
}

// TestP1AnsweredPeersAreNewMemory spoils one list of an answer and looks at the other one, at the arguments and at another
// answer. In one of the peers both lists are the same memory.
func TestP1AnsweredPeersAreNewMemory(t *testing.T) {
	one := peerOf(8, 5, 7, 8)
	one.Inbox = one.Queue
	for _, p := range []impl.Peer{peerOf(1, 5, 7, 0), peerOf(4, 5, 7, 9), peerOf(8, 5, 7, 99), peerOf(0, 5, 7, 100), one, {Seq: 5, Expect: 7}} {
		for name, call := range peerAnswers() {
			want, wanted := call(p)
			want = copyOfPeer(want)
			if apart, _ := call(p); len(apart.Queue) > 0 {
				spoilTexts(apart.Queue)
				if !slices.Equal(apart.Inbox, want.Inbox) {
					t.Errorf("%s of %s: lists share memory", name, peerTold(p))
				}
			}
			inside, g := talkArgs{p: p}.guardedIn()
			first, _ := call(inside.p)
			spoilTexts(first.Queue)
			if !slices.Equal(first.Inbox, want.Inbox) {
				t.Errorf("%s of %s: the inbox shares memory with the queue", name, peerTold(p))
			}
			second, code := call(inside.p)
			spoilTexts(second.Inbox)
			if !slices.Equal(second.Queue, want.Queue) {
				t.Errorf("%s of %s: the queue shares memory with the inbox", name, peerTold(p))
			}
			if _, kept := (talkArgs{p: p}).guardedIn(); !g.same(kept) {
				t.Errorf("%s of %s answers in the memory of an argument", name, peerTold(p))
			}
			third, _ := call(inside.p)
			spoilTexts(inside.p.Queue)
			spoilTexts(inside.p.Inbox)
			if code != wanted || !samePeer(third, want) {
				t.Errorf("%s of %s hangs on the memory of another answer or of an argument", name, peerTold(p))
			}
		}
	}
}

// TestP1AnsweredTalksAreNewMemory spoils each list of an answer in turn and looks at the others.
func TestP1AnsweredTalksAreNewMemory(t *testing.T) {
	for k := range 50 {
		acts := someTalk(20+2*k, 40, 10, someBytes(400+k))
		want, wanted := otherTalkRun(acts)
		for spoilt := range 4 {
			inside, whole := guardedTalk(acts)
			list, codes, _ := impl.TalkRun(inside)
			copies := []impl.Peer{copyOfPeer(want[0]), copyOfPeer(want[1])}
			for i, spoil := range []*[]string{&list[0].Queue, &list[0].Inbox, &list[1].Queue, &list[1].Inbox} {
				if i == spoilt {
					spoilTexts(*spoil)
					*spoil = nil
					*[]*[]string{&copies[0].Queue, &copies[0].Inbox, &copies[1].Queue, &copies[1].Inbox}[i] = nil
				}
			}
			if !slices.EqualFunc(list, copies, samePeer) || !slices.Equal(codes, wanted) {
				t.Errorf("TalkRun of %s: list %d shares its memory", actsTold(acts), spoilt)
			}
			if _, kept := guardedTalk(acts); !slices.Equal(whole, kept) {
				t.Error("TalkRun answers in the memory of an argument")
			}
			again, _, _ := impl.TalkRun(inside)
			clear(inside)
			if !slices.EqualFunc(again, want, samePeer) {
				t.Error("TalkRun hangs on the memory of another answer or of an argument")
			}
		}
	}
}

// wantOwnTexts asks that no text of some lists lies in the memory of another one; empty texts have none.
func wantOwnTexts(t *testing.T, name string, lists ...[]string) {
	t.Helper()
	all := slices.Concat(lists...)
	for i, a := range all {
		for _, b := range all[:i] {
			if a != "" && b != "" && sharesText(a, b) {
				t.Fatalf("%s: %q lies in the memory of another text", name, a)
			}
		}
	}
}

func TestP1AnsweredTextsOfTalksAreNewMemory(t *testing.T) {
	p := peerOf(4, 5, 7, 9)
	for name, call := range peerAnswers() {
		got, _ := call(p)
		wantOwnTexts(t, name, p.Queue, p.Inbox, got.Queue, got.Inbox)
	}
	text := string(someBytes(30))
	said, _ := impl.PeerSay(p, text)
	f := impl.Frame{Seq: 7, Has: true, Body: text}
	heard, _ := impl.PeerIn(p, f)
	wantOwnTexts(t, "PeerSay and PeerIn", []string{text}, said.Queue, heard.Inbox)
	p.Queue[0] = "first"
	out, _ := impl.PeerOut(p)
	wantOwnTexts(t, "PeerOut", p.Queue, []string{out.Body})
	for k := range 50 {
		acts := someTalk(20+k, 100, 0, someBytes(400+k))
		list, codes, _ := impl.TalkRun(acts)
		said := slices.Concat(saidBy(0, acts, codes), saidBy(1, acts, codes))
		wantOwnTexts(t, "TalkRun", said, list[0].Queue, list[0].Inbox, list[1].Queue, list[1].Inbox)
	}
}

func TestP1TalksOfNilAndEmpty(t *testing.T) {
	for _, a := range manyTalkArgs() {
		for _, f := range talkCalls() {
			for lists := range 4 {
				with := a
				put := func(queue, inbox []string, acts []impl.TalkAct) {
					if lists != 1 {
						with.p.Queue = queue
					}
					if lists != 2 {
						with.p.Inbox = inbox
					}
					if lists != 3 {
						with.acts = acts
					}
				}
				put(nil, nil, nil)
				want, wanted := f.call(with)
				for _, room := range []int{0, 130} {
					put(make([]string, 0, room), make([]string, 0, room), make([]impl.TalkAct, 0, room))
					if got, code := f.call(with); got != want || code != wanted {
						t.Errorf("%s of %s: nil and an empty list differ", f.name, with)
					}
				}
			}
		}
	}
}

// talkAnswers tells what all functions of the chapter answer, in one order or the other; a call is known by the place of
// its arguments, for their texts would be long.
func talkAnswers() func(backwards bool) map[string]string {
	args := manyTalkArgs()
	return func(backwards bool) map[string]string {
		out := map[string]string{}
		for i := range args {
			if backwards {
				i = len(args) - 1 - i
			}
			for _, f := range talkCalls() {
				out[fmt.Sprint(f.name, " of ", i)] = fmt.Sprintln(f.call(args[i]))
			}
		}
		return out
	}
}

func TestP1TalksAlikeArgumentsAlikeAnswers(t *testing.T) { wantAlike(t, talkAnswers()) }

func TestP1TalkCallsBesideEachOther(t *testing.T) { wantAlikeBeside(t, talkAnswers()) }

// TestP1TalksHangOnNothingAhead: others who talked, and what they lost, change nothing of those who talk next.
func TestP1TalksHangOnNothingAhead(t *testing.T) {
	acts := someTalkArgs().acts
	want, wanted := otherTalkRun(acts)
	for k := range 100 {
		impl.TalkRun(someTalk(1+k, k, 20, someBytes(400+k)))
		if list, codes, code := impl.TalkRun(acts); code != impl.OK || !slices.EqualFunc(list, want, samePeer) || !slices.Equal(codes, wanted) {
			t.Fatalf("TalkRun behind another run: %+v, codes %v, code %d", list, codes, code)
		}
	}
}
