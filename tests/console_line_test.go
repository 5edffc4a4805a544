package tests

import (
	"bytes"
	"slices"
	"strings"
	"testing"

	"loop.example/g00254/impl"
)

func TestP17LinesWrittenOut(t *testing.T) {
	for line, want := range map[string]impl.TalkAct{
		"say a hello":     {Kind: 1, Who: 0, Text: "hello"},
		"say b hello":     {Kind: 1, Who: 1, Text: "hello"},
		"say a two words": {Kind: 1, Who: 0, Text: "two words"},
		"say a":           {Kind: 1, Who: 0},
		"say b":           {Kind: 1, Who: 1},
		"round":           {Kind: 2},
		"round lose a":    {Kind: 2, LoseA: true},
		"round lose b":    {Kind: 2, LoseB: true},
		"round lose both": {Kind: 2, LoseA: true, LoseB: true},
		"hang a":          {Kind: 3, Who: 0},
		"hang b":          {Kind: 3, Who: 1},
	} {
		wantLine(t, line, want, impl.OK)
		wantReadAlike(t, line)
	}
}

// TestP17BlanksOfALine: how many blanks stand between words, ahead of the first one and behind the last one says nothing.
func TestP17BlanksOfALine(t *testing.T) {
	for _, x := range actLines() {
		for _, ahead := range []int{0, 1, 2, 9, 1000} {
			for _, between := range []int{1, 2, 3, 9, 1000} {
				for _, behind := range []int{0, 1, 2, 9, 1000} {
					line := blanks(ahead) + strings.Join(x.words, blanks(between)) + blanks(behind)
					wantLine(t, line, x.act, impl.OK)
				}
			}
		}
		// between two words alone
		for at := 1; at < len(x.words); at++ {
			line := strings.Join(x.words[:at], " ") + blanks(5) + strings.Join(x.words[at:], " ")
			wantLine(t, line, x.act, impl.OK)
			wantNoLine(t, strings.Join(x.words[:at], " ")+strings.Join(x.words[at:], " "))
		}
	}
}

func blanks(n int) string { return strings.Repeat(" ", n) }

// saidInLines are texts that a line may say; none has a blank at an end.
func saidInLines() []string {
	out := []string{
		"", "x", "word", "two words", "three more words", "a  b", "a" + blanks(38) + "b", "a", "b", "a a", "b a", "#", "# x", "#x", "lose", "lose a",
		"both", "say", "say a x", "round", "hang b", "queue", "hears", "\t", "\t \t", "\r", "x\r", "\x0b", "\x0c", "\x00", "\x00 \x00", "\n", "x\ny", "é",
		"\xff", "\xc3", "\xa0", "\xc2\xa0", "\u3000", "\"x\"", strings.Repeat("x", 39), strings.Repeat("x", 40), strings.Repeat("é", 20), ones(40), noughts(40),
	}
	for n := 1; n <= 40; n++ {
		out = append(out, strings.ReplaceAll(someText(n), " ", "_"))
	}
	return out
}

func TestP17TextsOfALine(t *testing.T) {
	for _, text := range saidInLines() {
		for who, name := range []string{"a", "b"} {
			for _, around := range []int{0, 1, 2, 40, 41, 100} {
				wantLine(t, "say "+name+" "+blanks(around)+text+blanks(around), sayAct(who, text), impl.OK)
				wantReadAlike(t, blanks(around)+"say"+blanks(around+1)+name+" "+text+blanks(around))
			}
		}
	}
}

// TestP17TextsThatAreTooLong: blanks within a text count, those around it do not.
func TestP17TextsThatAreTooLong(t *testing.T) {
	for _, text := range []string{
		strings.Repeat("x", 41), strings.Repeat("x", 42), strings.Repeat("x", 400), strings.Repeat("x y ", 10) + "z", "x" + blanks(39) + "y", "x" + blanks(1000) + "y",
		strings.Repeat("é", 20) + "e", ones(41), noughts(41), strings.Repeat("\t", 41), strings.Repeat("x", impl.MaxText-6),
	} {
		for _, name := range []string{"a", "b"} {
			wantNoLine(t, "say "+name+" "+text)
		}
		if len(text) < 1000 {
			wantNoLine(t, " say  a  "+text+" ")
		}
	}
	for n := range 100 {
		text := strings.Repeat("x", n)
		act, code := wantReadAlike(t, "say b "+text)
		if ok := n <= 40; ok != (code == impl.OK) || ok && act.Text != text {
			t.Errorf("a text of %d bytes: code %d", n, code)
		}
	}
}

func TestP17LinesThatAreNone(t *testing.T) {
	for _, line := range slices.Concat(silentLines(), wrongLines(), []string{"queue", " queue ", "queue queue"}) {
		wantNoLine(t, line)
		wantReadAlike(t, line)
	}
}

func TestP17WhoElse(t *testing.T) {
	for _, who := range []string{"", "c", "A", "B", "ab", "ba", "aa", "0", "1", "both", "a,", "#", "`", "\x00", "a\x00", "\xe1", "á", "lose", "a\n", "a\t", "\ta"} {
		for _, act := range []string{"say", "hang", "round lose"} {
			if act == "round lose" && who == "both" {
				continue
			}
			wantNoLine(t, act+" "+who)
			wantNoLine(t, " "+act+"  "+who+" ")
			if who != "" {
				wantNoLine(t, act+" "+who+" text")
				wantNoLine(t, act+" "+who+" a")
			}
		}
	}
	wantNoLine(t, "hang both")
	wantNoLine(t, "say both text")
}

// TestP17WordsThatAreMissing leaves out each word of each line.
func TestP17WordsThatAreMissing(t *testing.T) {
	for _, x := range actLines() {
		for at := range x.words {
			line := strings.Join(slices.Delete(slices.Clone(x.words), at, at+1), " ")
			if at == 2 && x.words[0] == "say" {
				wantLine(t, line, sayAct(x.act.Who, ""), impl.OK)
			} else {
				wantNoLine(t, line)
			}
		}
	}
	for _, line := range []string{"say", "say text", "hang", "round lose", "lose", "lose a", "lose both", "a", "a text"} {
		wantNoLine(t, line)
	}
}

// TestP17WordsThatAreTooMany puts a word into each place of each line; only what is said has room for more.
func TestP17WordsThatAreTooMany(t *testing.T) {
	for _, x := range actLines() {
		for at := range len(x.words) + 1 {
			for _, word := range []string{"a", "b", "both", "lose", "round", "hang", "say", "#", "# remark", "x", "\t", "\x00", "queue"} {
				line := strings.Join(slices.Insert(slices.Clone(x.words), at, word), " ")
				act, code := wantReadAlike(t, line)
				if isText := x.words[0] == "say" && at >= 2; isText && code != impl.OK {
					t.Errorf("%q: code %d", line, code)
				} else if x.words[0] != "say" && word != "say" && code == impl.OK {
					t.Errorf("%q is %+v", line, act)
				}
			}
		}
	}
}

// TestP17EachByteInEachLine puts each byte into each place of each line, in place of another one and beside it, and takes
// each byte away: only blanks part words, and a letter of the other case is another letter.
func TestP17EachByteInEachLine(t *testing.T) {
	for _, x := range actLines() {
		line := []byte(strings.Join(x.words, " "))
		for at := range len(line) + 1 {
			for b := range 256 {
				wantReadAlike(t, string(slices.Insert(bytes.Clone(line), at, byte(b))))
				if at < len(line) {
					other := bytes.Clone(line)
					other[at] = byte(b)
					wantReadAlike(t, string(other))
				}
			}
			if at < len(line) {
				wantReadAlike(t, string(slices.Delete(bytes.Clone(line), at, at+1)))
			}
		}
	}
}

// TestP17BytesThatAreNoBlanks says of each byte but the blank that it neither parts words nor goes away at an end.
func TestP17BytesThatAreNoBlanks(t *testing.T) {
	for b := range 256 {
		if b == ' ' {
			continue
		}
		c := string([]byte{byte(b)})
		for _, line := range []string{
			c, c + "round", "round" + c, "round" + c + "lose a", "round lose" + c + "a", "round lose a" + c, "round lose both" + c, c + "hang a", "hang" + c + "a",
			"hang a" + c, "hang a " + c, "round " + c, c + " round", c + "say a", "say" + c + "a x", "say a" + c, "say a" + c + "x", "round lose a " + c, c + "queue",
		} {
			wantNoLine(t, line)
		}
		for _, text := range []string{c, c + c, c + " " + c, "x" + c, c + "x", "x" + c + "y"} {
			wantLine(t, "say a "+text, sayAct(0, text), impl.OK)
			wantLine(t, "  say  b  "+text+"  ", sayAct(1, text), impl.OK)
		}
	}
}

// TestP17WordsOfAnotherCase writes each letter of each word large.
func TestP17WordsOfAnotherCase(t *testing.T) {
	for _, x := range actLines() {
		if x.act.Kind == impl.TaSay {
			x.words = x.words[:2]
		}
		line := strings.Join(x.words, " ")
		wantNoLine(t, strings.ToUpper(line))
		for at := range line {
			if large := line[:at] + strings.ToUpper(line[at:at+1]) + line[at+1:]; large != line {
				wantNoLine(t, large)
			}
		}
	}
}

// TestP17AllShortLines takes every run of a few pieces, blanks among them.
func TestP17AllShortLines(t *testing.T) {
	t.Parallel()
	pieces := []string{" ", "  ", "say", "round", "hang", "lose", "both", "a", "b", "queue", "#", "x", "\n", "\t"}
	acts := 0
	var run func(line string, left int)
	run = func(line string, left int) {
		if _, code := wantReadAlike(t, line); code == impl.OK {
			acts++
		}
		if left > 0 {
			for _, piece := range pieces {
				run(line+piece, left-1)
			}
		}
	}
	run("", 5)
	for _, begin := range []string{"say ", "say a", "round ", "round lose", " hang ", "hang a"} {
		run(begin, 4)
	}
	if acts < 4000 {
		t.Errorf("%d lines were acts", acts)
	}
}

func TestP17LongLines(t *testing.T) {
	for _, x := range actLines() {
		line := strings.Join(x.words, " ")
		room := impl.MaxText - len(line)
		within := strings.Join(x.words, blanks(1+room/max(1, len(x.words)-1)))
		for _, long := range []string{line + blanks(room), blanks(room) + line, blanks(room/2) + line + blanks(room-room/2), within} {
			wantLine(t, long, x.act, impl.OK)
		}
		for _, long := range []string{line + blanks(room+1), blanks(room+1) + line, line + blanks(2*impl.MaxText)} {
			wantLine(t, long, impl.TalkAct{}, impl.ErrLong)
		}
		wantNoLine(t, line+blanks(room-1)+"#")
	}
	for _, piece := range []string{" ", "#", "x", "\n", "\x00", "\xff"} {
		wantNoLine(t, strings.Repeat(piece, impl.MaxText-1))
		wantNoLine(t, strings.Repeat(piece, impl.MaxText))
		wantLine(t, strings.Repeat(piece, impl.MaxText+1), impl.TalkAct{}, impl.ErrLong)
		wantLine(t, strings.Repeat(piece, impl.MaxText*3), impl.TalkAct{}, impl.ErrLong)
	}
	wantNoLine(t, "#"+blanks(impl.MaxText-1))
	wantNoLine(t, "queue"+blanks(impl.MaxText-5))
	wantLine(t, "queue"+blanks(impl.MaxText-4), impl.TalkAct{}, impl.ErrLong)
}

// TestP17LinesReadBack: what is told of an act is read as that act.
func TestP17LinesReadBack(t *testing.T) {
	acts := allLosses()
	for who := range 2 {
		acts = append(acts, hangAct(who))
		for _, text := range saidInLines() {
			acts = append(acts, sayAct(who, text))
		}
	}
	for _, a := range acts {
		wantLine(t, lineOf(a), a, impl.OK)
	}
}

// lineOf is the line of a right act whose text has no blanks at its ends.
func lineOf(a impl.TalkAct) string {
	who := string(rune('a' + a.Who))
	switch a.Kind {
	case impl.TaSay:
		return strings.TrimSuffix("say "+who+" "+a.Text, " ")
	case impl.TaHang:
		return "hang " + who
	}
	return losingLine(a.LoseA, a.LoseB)
}
