package tests

import (
	"fmt"
	"math"
	"slices"
	"testing"

	"loop.example/g00254/impl"
)

// wantHeard asks for the promise by what was said and taken alone: nothing hangs up in these acts.
func wantHeard(t *testing.T, acts []impl.TalkAct, list []impl.Peer, codes []int) {
	t.Helper()
	for who, p := range list {
		said, heard := saidBy(who, acts, codes), list[1-who].Inbox
		if len(heard) > len(said) || !slices.Equal(heard, said[:len(heard)]) {
			t.Fatalf("of %q of %d the other one hears %q: %s", said, who, heard, actsTold(acts))
		}
		// what waits is all that was not heard, and perhaps the last that was
		waits := len(said) - len(p.Queue)
		if waits != len(heard) && waits != len(heard)-1 || !slices.Equal(p.Queue, said[waits:]) {
			t.Fatalf("of %q of %d %q wait: %s", said, who, p.Queue, actsTold(acts))
		}
	}
}

// allLosses are all four ways of losing.
func allLosses() []impl.TalkAct {
	return []impl.TalkAct{roundAct(false, false), roundAct(true, false), roundAct(false, true), roundAct(true, true)}
}

// TestP16AllShortRuns takes every run of a few acts; in it each text is another one.
func TestP16AllShortRuns(t *testing.T) {
	t.Parallel()
	choices := append(allLosses(), sayAct(0, ""), sayAct(1, ""), hangAct(0), hangAct(1))
	var run func(acts []impl.TalkAct)
	run = func(acts []impl.TalkAct) {
		list, codes := wantTalk(t, acts)
		if !slices.ContainsFunc(acts, func(a impl.TalkAct) bool { return a.Kind == impl.TaHang }) {
			wantHeard(t, acts, list, codes)
		}
		if len(acts) < 6 {
			for _, a := range choices {
				if a.Kind == impl.TaSay {
					a.Text = fmt.Sprint("text ", len(acts))
				}
				run(append(slices.Clip(acts), a))
			}
		}
	}
	for said := range 3 {
		run([]impl.TalkAct{sayAct(0, "one"), sayAct(1, "eins")}[:said])
	}
}

// someTalk are acts that look like any others; of 256 rounds so many lose each of both frames, and of 256 acts so many hang up.
func someTalk(n, losing, hanging int, bytes []byte) []impl.TalkAct {
	var out []impl.TalkAct
	for i := range n {
		luck, a, b := int(bytes[3*i]), int(bytes[3*i+1]), int(bytes[3*i+2])
		switch {
		case luck < hanging:
			out = append(out, hangAct(a%2))
		case luck < hanging+100:
			out = append(out, sayAct(a%2, fmt.Sprint("text ", i)))
		default:
			out = append(out, roundAct(a < losing, b < losing))
		}
	}
	return out
}

func TestP16LongRunsThatLose(t *testing.T) {
	t.Parallel()
	heard, full := 0, 0
	for k := range 2000 {
		acts := someTalk(20+k%101, k%256, 0, someBytes(400+k))
		list, codes := wantTalk(t, acts)
		wantHeard(t, acts, list, codes)
		heard += len(list[0].Inbox) + len(list[1].Inbox)
		if slices.Contains(codes, impl.ErrQueue) {
			full++
		}
	}
	if heard < 10000 || full < 200 || full > 1800 {
		t.Errorf("%d texts were heard, in %d runs a queue was full", heard, full)
	}
}

// TestP16LongRunsThatHangUp also asks that what hangs up does not hinder what is said later: once nothing is lost all
// arrives that did not hang up.
func TestP16LongRunsThatHangUp(t *testing.T) {
	t.Parallel()
	hung := 0
	for k := range 2000 {
		acts := someTalk(20+k%84, k%256, 10+k%40, someBytes(400+k))
		list, codes := wantTalk(t, acts)
		for i, a := range acts {
			if a.Kind == impl.TaHang && codes[i] == impl.OK {
				hung++
			}
		}
		later, _ := wantTalk(t, slices.Concat(acts, roundActs(17)))
		for who, p := range list {
			heard, all := later[1-who].Inbox, slices.Concat(list[1-who].Inbox, p.Queue)
			twice := slices.Concat(list[1-who].Inbox, p.Queue[min(1, len(p.Queue)):])
			if len(later[who].Queue) != 0 || !slices.Equal(heard, all) && !slices.Equal(heard, twice) {
				t.Fatalf("behind %s of %d there are heard %q; waiting %q", actsTold(acts), who, heard, later[who].Queue)
			}
			if !isPartOf(heard, saidBy(who, acts, codes)) {
				t.Fatalf("of %q of %d there are heard %q", saidBy(who, acts, codes), who, heard)
			}
		}
	}
	if hung < 2000 {
		t.Errorf("%d acts hung up", hung)
	}
}

// isPartOf says whether all of part stand in whole, in order.
func isPartOf(part, whole []string) bool {
	for _, text := range whole {
		if len(part) > 0 && part[0] == text {
			part = part[1:]
		}
	}
	return len(part) == 0
}

// TestP16WhereNothingIsLost: one round in two at least brings the next text of each.
func TestP16WhereNothingIsLost(t *testing.T) {
	for a := range 9 {
		for b := range 9 {
			var acts []impl.TalkAct
			for i := range a {
				acts = append(acts, sayAct(0, fmt.Sprint("a", i)))
			}
			for i := range b {
				acts = append(acts, sayAct(1, fmt.Sprint("b", i)))
			}
			for rounds := range 19 {
				list, _ := wantTalk(t, slices.Concat(acts, roundActs(rounds)))
				for who, said := range []int{a, b} {
					come, gone := min(said, (rounds+1)/2), min(said, rounds/2)
					if len(list[1-who].Inbox) != come || len(list[who].Queue) != said-gone || list[who].Seq != gone {
						t.Errorf("%d and %d texts, %d rounds, of %d: %+v", a, b, rounds, who, list)
					}
				}
			}
		}
	}
}

// TestP16ManyTexts is the longest talk that one run has room for: 40 texts, of one or of both.
func TestP16ManyTexts(t *testing.T) {
	for _, share := range []int{1, 2} {
		var acts []impl.TalkAct
		said := make([][]string, 2)
		for i := range 40 {
			who := i % share
			said[who] = append(said[who], fmt.Sprint("text ", i))
			acts = append(acts, sayAct(who, fmt.Sprint("text ", i)))
			acts = append(acts, roundActs(2)...)
		}
		list, codes := wantTalk(t, acts)
		if slices.Max(codes) != impl.OK || !slices.Equal(list[1].Inbox, said[0]) || !slices.Equal(list[0].Inbox, said[1]) {
			t.Errorf("%d talk: %+v, codes %v", share, list, codes)
		}
	}
}

// TestP16FramesThatCross: both frames of a round are made ahead of either being taken.
func TestP16FramesThatCross(t *testing.T) {
	for i, round := range allLosses() {
		acts := []impl.TalkAct{sayAct(0, "one"), sayAct(0, "two"), sayAct(1, "eins"), sayAct(1, "zwei"), round}
		list, _ := wantTalk(t, acts)
		for who, p := range list {
			said := [][]string{{"one", "two"}, {"eins", "zwei"}}
			var heard []string
			if lost := []bool{round.LoseB, round.LoseA}[who]; !lost {
				heard = said[1-who][:1]
			}
			if !slices.Equal(p.Queue, said[who]) || p.Seq != 0 || !slices.Equal(p.Inbox, heard) || p.Expect != len(heard) {
				t.Errorf("losing %d, %d: %s", i, who, peerTold(p))
			}
		}
		// the next round lets go what came through, and brings the others' next where they know of it
		list, _ = wantTalk(t, append(acts, roundAct(false, false)))
		for who, p := range list {
			if came := ![]bool{round.LoseA, round.LoseB}[who]; came != (p.Seq == 1) || came != (len(p.Queue) == 1) {
				t.Errorf("losing %d, then nothing, %d: %s", i, who, peerTold(p))
			}
		}
	}
}

// TestP16WhoLosesWhat: LoseA loses what 0 sends, LoseB what 1 sends.
func TestP16WhoLosesWhat(t *testing.T) {
	for _, round := range allLosses() {
		list, _ := wantTalk(t, []impl.TalkAct{sayAct(0, "of 0"), sayAct(1, "of 1"), round})
		if got := len(list[1].Inbox) == 0; got != round.LoseA {
			t.Errorf("%+v: 1 hears %q", round, list[1].Inbox)
		}
		if got := len(list[0].Inbox) == 0; got != round.LoseB {
			t.Errorf("%+v: 0 hears %q", round, list[0].Inbox)
		}
	}
}

// TestP16AcksThatAreLost: a text whose acknowledgement is lost comes again and is heard once.
func TestP16AcksThatAreLost(t *testing.T) {
	acts := []impl.TalkAct{sayAct(0, "one"), sayAct(0, "two")}
	for range 10 {
		acts = append(acts, roundAct(false, true))
	}
	list, _ := wantTalk(t, acts)
	if !slices.Equal(list[1].Inbox, []string{"one"}) || !slices.Equal(list[0].Queue, []string{"one", "two"}) {
		t.Errorf("lost acknowledgements: %+v", list)
	}
	list, _ = wantTalk(t, append(acts, roundAct(true, false), roundAct(false, true)))
	if !slices.Equal(list[1].Inbox, []string{"one", "two"}) || !slices.Equal(list[0].Queue, []string{"two"}) {
		t.Errorf("behind an acknowledgement: %+v", list)
	}
}

// TestP16AlikeTexts: it is numbers that tell a text that comes again from one that is said again.
func TestP16AlikeTexts(t *testing.T) {
	var acts []impl.TalkAct
	for _, text := range []string{"same", "same", "", "", "same"} {
		acts = append(acts, sayAct(0, text), sayAct(1, text))
	}
	list, _ := wantTalk(t, append(acts, roundActs(10)...))
	for who, p := range list {
		if !slices.Equal(p.Inbox, []string{"same", "same", "", "", "same"}) || len(p.Queue) != 0 {
			t.Errorf("%d of two who say the same: %s", who, peerTold(p))
		}
	}
}

// TestP16HangUp: the first text may be under way, so that it stays; what is said behind it has the next numbers.
func TestP16HangUp(t *testing.T) {
	for who := range 2 {
		for count := 1; count <= 8; count++ {
			var acts []impl.TalkAct
			for i := range count {
				acts = append(acts, sayAct(who, fmt.Sprint("text ", i)))
			}
			for ahead := range 3 {
				acts := slices.Concat(acts, roundActs(ahead), []impl.TalkAct{hangAct(who), sayAct(who, "later")}, roundActs(5))
				list, codes := wantTalk(t, acts)
				first := min(ahead/2, count-1)
				want := []string{"text 0", "text 1"}[:first+1]
				if count == 1 && ahead == 2 {
					if codes[count+ahead] != impl.ErrNone {
						t.Errorf("codes %v where nothing waits", codes)
					}
				}
				if !slices.Equal(list[1-who].Inbox, append(slices.Clone(want), "later")) {
					t.Errorf("%d of %d texts hang up behind %d rounds: %+v, codes %v", who, count, ahead, list, codes)
				}
			}
		}
	}
}

// actCase is an act behind others, and the code of it.
type actCase struct {
	ahead []impl.TalkAct
	act   impl.TalkAct
	code  int
}

func sayCases() []actCase {
	var full []impl.TalkAct
	for i := range 8 {
		full = append(full, sayAct(0, fmt.Sprint("text ", i)))
	}
	return []actCase{
		{nil, sayAct(-1, "text"), impl.ErrRange}, {nil, sayAct(0, "text"), impl.OK}, {nil, sayAct(1, "text"), impl.OK},
		{nil, sayAct(2, "text"), impl.ErrRange}, {nil, sayAct(math.MinInt, "text"), impl.ErrRange}, {nil, sayAct(math.MaxInt, "text"), impl.ErrRange},
		{nil, sayAct(0, ""), impl.OK}, {nil, sayAct(1, ones(40)), impl.OK}, {nil, sayAct(0, ones(41)), impl.ErrRange},
		{nil, sayAct(1, ones(41)), impl.ErrRange}, {nil, sayAct(1, ones(impl.MaxText)), impl.ErrRange}, {nil, sayAct(2, ones(41)), impl.ErrRange},
		{full[:7], sayAct(0, "text"), impl.OK}, {full, sayAct(0, "text"), impl.ErrQueue}, {full, sayAct(0, ""), impl.ErrQueue},
		{full, sayAct(0, ones(41)), impl.ErrRange}, {full, sayAct(2, "text"), impl.ErrRange}, {full, sayAct(1, "text"), impl.OK},
		{append(slices.Clip(full), roundActs(1)...), sayAct(0, "text"), impl.ErrQueue},
		{append(slices.Clip(full), roundActs(2)...), sayAct(0, "text"), impl.OK},
		{append(slices.Clip(full), hangAct(0)), sayAct(0, "text"), impl.OK},
	}
}

func hangCases() []actCase {
	one, two := []impl.TalkAct{sayAct(0, "one")}, []impl.TalkAct{sayAct(0, "one"), sayAct(0, "two"), sayAct(1, "eins")}
	return []actCase{
		{nil, hangAct(-1), impl.ErrRange}, {nil, hangAct(2), impl.ErrRange}, {nil, hangAct(0), impl.ErrNone}, {nil, hangAct(1), impl.ErrNone},
		{nil, hangAct(math.MinInt), impl.ErrRange}, {two, hangAct(math.MaxInt), impl.ErrRange}, {two, hangAct(-1), impl.ErrRange},
		{one, hangAct(0), impl.OK}, {one, hangAct(1), impl.ErrNone}, {two, hangAct(0), impl.OK}, {two, hangAct(1), impl.OK},
		{append(slices.Clip(one), roundActs(1)...), hangAct(0), impl.OK}, {append(slices.Clip(one), roundActs(2)...), hangAct(0), impl.ErrNone},
	}
}

func formCases() []actCase {
	var out []actCase
	for _, kind := range append(farNumbers(), -1, 0, 4, 5, 6, 7, 257, 258, 259, math.MinInt+1, math.MaxInt) {
		for who := -1; who <= 2; who++ {
			out = append(out, actCase{[]impl.TalkAct{sayAct(0, "one"), sayAct(0, "two")}, impl.TalkAct{Kind: kind, Who: who, Text: "text"}, impl.ErrForm})
		}
	}
	return out
}

// TestP16ActCodes also asks that an act with a code changes nothing.
func TestP16ActCodes(t *testing.T) {
	for _, c := range slices.Concat(sayCases(), hangCases(), formCases()) {
		before, _ := wantTalk(t, c.ahead)
		list, codes := wantTalk(t, append(slices.Clip(c.ahead), c.act))
		if codes[len(c.ahead)] != c.code {
			t.Errorf("%+v behind %d acts: code %d; want %d", c.act, len(c.ahead), codes[len(c.ahead)], c.code)
		}
		if same := slices.EqualFunc(list, before, samePeer); c.code != impl.OK && !same {
			t.Errorf("%+v behind %d acts has code %d and changes something", c.act, len(c.ahead), c.code)
		}
		// behind all the others may still talk
		wantTalk(t, slices.Concat(c.ahead, []impl.TalkAct{c.act}, roundActs(4), []impl.TalkAct{c.act}))
	}
}

// TestP16WithoutWhatIsRefused: what is refused may as well not be there.
func TestP16WithoutWhatIsRefused(t *testing.T) {
	t.Parallel()
	refused := 0
	for k := range 500 {
		acts := someTalk(110, k%256, 30, someBytes(400+k))
		for i := 3; i < len(acts); i += 9 {
			acts[i] = []impl.TalkAct{{Kind: 4}, sayAct(2, "x"), hangAct(-1), sayAct(0, ones(41))}[i%4]
		}
		list, codes := wantTalk(t, acts)
		var taken []impl.TalkAct
		for i, a := range acts {
			if codes[i] == impl.OK {
				taken = append(taken, a)
			}
		}
		refused += len(acts) - len(taken)
		if again, all := wantTalk(t, taken); !slices.EqualFunc(list, again, samePeer) || len(all) > 0 && slices.Max(all) != impl.OK {
			t.Errorf("without what was refused %+v, codes %v; with it %+v", again, all, list)
		}
	}
	if refused < 5000 {
		t.Errorf("%d acts were refused", refused)
	}
}

// TestP16PartsThatAnActHasNotToDoWith fills those parts of an act that its kind does not ask for.
func TestP16PartsThatAnActHasNotToDoWith(t *testing.T) {
	for _, who := range []int{math.MinInt, -1, 0, 1, 2, math.MaxInt} {
		for _, n := range []int{0, 40, 41, impl.MaxText} {
			ahead := []impl.TalkAct{sayAct(0, "one"), sayAct(0, "two"), sayAct(1, "eins")}
			ahead[0].LoseA, ahead[1].LoseB = true, true
			round, hang := roundAct(false, false), hangAct(0)
			round.Who, round.Text, hang.Text, hang.LoseA, hang.LoseB = who, someText(n), someText(n), true, true
			list, codes := wantTalk(t, append(ahead, round, hang, round))
			if slices.Max(codes) != impl.OK || len(list[1].Inbox) != 1 || len(list[0].Inbox) != 1 || len(list[0].Queue) != 0 {
				t.Errorf("with other parts: %+v, codes %v", list, codes)
			}
		}
	}
}

func TestP16NoActs(t *testing.T) {
	for _, acts := range [][]impl.TalkAct{nil, {}} {
		list, codes, code := impl.TalkRun(acts)
		if len(list) != 2 || peerTold(list[0]) != "" || peerTold(list[1]) != "" || len(codes) != 0 || code != impl.OK {
			t.Errorf("TalkRun of no acts: %+v, codes %v, code %d", list, codes, code)
		}
	}
}

func wantNoTalk(t *testing.T, name string, acts []impl.TalkAct, want int) {
	t.Helper()
	if list, codes, code := impl.TalkRun(acts); len(list) != 0 || len(codes) != 0 || code != want {
		t.Errorf("TalkRun of %s: %d peers, %d codes, code %d; want nothing, code %d", name, len(list), len(codes), code, want)
	}
}

func TestP16TooManyActs(t *testing.T) {
	for _, one := range []impl.TalkAct{{}, roundAct(false, false), sayAct(0, "text"), sayAct(5, ones(41)), hangAct(1)} {
		wantTalk(t, slices.Repeat([]impl.TalkAct{one}, 119))
		wantTalk(t, slices.Repeat([]impl.TalkAct{one}, 120))
		for _, n := range []int{121, 122, 1000, impl.MaxList - 1, impl.MaxList} {
			wantNoTalk(t, fmt.Sprint(n, " acts"), slices.Repeat([]impl.TalkAct{one}, n), impl.ErrMany)
		}
		for _, n := range []int{impl.MaxList + 1, 2 * impl.MaxList} {
			wantNoTalk(t, fmt.Sprint(n, " acts"), slices.Repeat([]impl.TalkAct{one}, n), impl.ErrLong)
		}
	}
}

// TestP16TooLongTexts: a text of an act that is too long refuses the whole run, whatever its act's kind; too many acts come
// ahead of it.
func TestP16TooLongTexts(t *testing.T) {
	long := noughts(impl.MaxText + 1)
	for _, kind := range []int{impl.TaSay, impl.TaRound, impl.TaHang, 0, 4} {
		for _, count := range []int{1, 2, 60, 120} {
			for _, at := range []int{0, count / 2, count - 1} {
				acts := roundActs(count)
				acts[at] = impl.TalkAct{Kind: kind, Text: noughts(impl.MaxText)}
				wantTalk(t, acts)
				acts[at].Text = long
				wantNoTalk(t, fmt.Sprint("a text that is too long at ", at, " of ", count), acts, impl.ErrLong)
				acts[at].Who = 7
				wantNoTalk(t, fmt.Sprint("a text that is too long at ", at, " of ", count, " of nobody"), acts, impl.ErrLong)
			}
		}
		for _, at := range []int{0, 119, 120} {
			acts := roundActs(121)
			acts[at] = impl.TalkAct{Kind: kind, Text: long}
			wantNoTalk(t, fmt.Sprint("121 acts, a text that is too long at ", at), acts, impl.ErrMany)
		}
	}
}

// TestP16RunsAreTheirActsOneByOne takes the other functions of the chapter for the acts of a run.
func TestP16RunsAreTheirActsOneByOne(t *testing.T) {
	t.Parallel()
	for k := range 300 {
		acts := someTalk(120, 60+k%120, 0, someBytes(400+k))
		both := make([]impl.Peer, 2)
		var codes []int
		for _, a := range acts {
			code := impl.OK
			if a.Kind == impl.TaSay {
				both[a.Who], code = impl.PeerSay(both[a.Who], a.Text)
			} else {
				fromA, _ := impl.PeerOut(both[0])
				fromB, _ := impl.PeerOut(both[1])
				if !a.LoseA {
					both[1], _ = impl.PeerIn(both[1], fromA)
				}
				if !a.LoseB {
					both[0], _ = impl.PeerIn(both[0], fromB)
				}
			}
			codes = append(codes, code)
		}
		if list, got := wantTalk(t, acts); !slices.EqualFunc(list, both, samePeer) || !slices.Equal(got, codes) {
			t.Errorf("TalkRun: %+v, codes %v; one by one %+v, codes %v", list, got, both, codes)
		}
	}
}
