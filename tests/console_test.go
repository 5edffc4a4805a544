package tests

import (
	"fmt"
	"slices"
	"strings"
	"testing"

	"loop.example/g00254/impl"
)

// saidCase is a line and all that is said to it.
type saidCase struct{ line, said string }

// wantLines asks for what is said to lines one behind the other, and to the first of them wherever the text ends.
func wantLines(t *testing.T, cases []saidCase) {
	t.Helper()
	var lines []string
	want := ""
	for _, x := range cases {
		lines, want = append(lines, x.line), want+x.said
		wantConsoleSays(t, linesText(lines, false), want)
		wantConsoleSays(t, linesText(lines, true), want)
	}
	wantConsole(t, linesText(lines, false))
}

func TestP17TalkWrittenOut(t *testing.T) {
	wantLines(t, []saidCase{
		{"queue", "0 0\n"},
		{"say a hello there", "ok\n"},
		{"queue", "1 0\n"},
		{"# a remark", ""},
		{"round", "b hears hello there\nok\n"},
		{"queue", "1 0\n"},
		{"", ""},
		{"say b good  day", "ok\n"},
		{"queue", "1 1\n"},
		{"round lose b", "ok\n"},
		{"round lose both", "ok\n"},
		{"round", "a hears good  day\nok\n"},
		{"queue", "0 1\n"},
		{"round lose a", "ok\n"},
		{"queue", "0 1\n"},
		{"round", "ok\n"},
		{"queue", "0 0\n"},
		{"hang a", "error none\n"},
		{"hang b", "error none\n"},
		{"go", "error form\n"},
		{"say a", "ok\n"},
		{"say b", "ok\n"},
		{"round", "a hears \nb hears \nok\n"},
		{"round", "ok\n"},
		{"round", "ok\n"},
		{"queue", "0 0\n"},
	})
}

// TestP17BothHear: first of a, then of b, whoever spoke first.
func TestP17BothHear(t *testing.T) {
	for _, said := range [][]string{{"say a of a", "say b of b"}, {"say b of b", "say a of a"}} {
		for _, x := range []saidCase{
			{"round", "a hears of b\nb hears of a\nok\n"}, {"round lose a", "a hears of b\nok\n"},
			{"round lose b", "b hears of a\nok\n"}, {"round lose both", "ok\n"},
		} {
			wantLines(t, []saidCase{{said[0], "ok\n"}, {said[1], "ok\n"}, x})
		}
	}
}

// TestP17CodesOfActs: what has a code says it alone, and changes nothing.
func TestP17CodesOfActs(t *testing.T) {
	for who, name := range []string{"a", "b"} {
		var cases []saidCase
		counts := func(n int) string { return []string{fmt.Sprintln(n, 0), fmt.Sprintln(0, n)}[who] }
		cases = append(cases, saidCase{"hang " + name, "error none\n"})
		for i := range 8 {
			cases = append(cases, saidCase{fmt.Sprintf("say %s text %d", name, i), "ok\n"}, saidCase{"queue", counts(i + 1)})
		}
		other := []string{"b", "a"}[who]
		cases = append(cases,
			saidCase{"say " + name + " more", "error queue\n"}, saidCase{"say " + name, "error queue\n"}, saidCase{"queue", counts(8)},
			saidCase{"say " + name + " " + strings.Repeat("x", 41), "error form\n"}, saidCase{"hang " + other, "error none\n"},
			saidCase{"round", other + " hears text 0\nok\n"}, saidCase{"say " + name + " more", "error queue\n"},
			saidCase{"round", "ok\n"}, saidCase{"queue", counts(7)}, saidCase{"say " + name + " more", "ok\n"}, saidCase{"queue", counts(8)},
			saidCase{"hang " + name, "ok\n"}, saidCase{"queue", counts(1)}, saidCase{"hang " + name, "ok\n"}, saidCase{"queue", counts(1)},
			saidCase{"round", other + " hears text 1\nok\n"}, saidCase{"hang " + name, "ok\n"}, saidCase{"round", "ok\n"},
			saidCase{"hang " + name, "error none\n"}, saidCase{"queue", "0 0\n"}, saidCase{"round", "ok\n"})
		wantLines(t, cases)
	}
}

// TestP17WrongLines are said to be so wherever they stand, and change nothing.
func TestP17WrongLines(t *testing.T) {
	for _, line := range wrongLines() {
		wrong := saidCase{line, "error form\n"}
		wantLines(t, []saidCase{
			wrong, {"say a text", "ok\n"}, wrong, wrong, {"round", "b hears text\nok\n"}, wrong, {"queue", "1 0\n"}, wrong, {"round", "ok\n"}, {"queue", "0 0\n"}, wrong,
		})
	}
}

func TestP17Queue(t *testing.T) {
	for a := range 9 {
		for b := range 9 {
			lines := slices.Concat(slices.Repeat([]string{"say a x"}, a), slices.Repeat([]string{"say b x"}, b))
			for _, queue := range []string{"queue", " queue", "queue ", "   queue   "} {
				said := strings.Repeat("ok\n", a+b) + fmt.Sprintf("%d %d\n", a, b)
				wantConsoleSays(t, linesText(append(slices.Clip(lines), queue), false), said)
			}
		}
	}
	for _, line := range []string{"queue a", "queue 1", "queue queue", "Queue", "QUEUE", "queues", "queu", "queue\t", "\tqueue", "queue\r", "queue #", "qu eue", "queue\x00"} {
		wantConsoleSays(t, line, "error form\n")
		wantConsoleSays(t, " "+line+" \n", "error form\n")
	}
}

func TestP17NoLines(t *testing.T) {
	wantConsoleSays(t, "", "")
	for _, line := range silentLines() {
		for _, text := range []string{line, line + "\n", line + "\n" + line, line + "\n\n" + line + "\n"} {
			wantConsoleSays(t, text, "")
		}
	}
}

// TestP17EndsOfLines: what stands behind the last byte 10 is a line if it has a byte.
func TestP17EndsOfLines(t *testing.T) {
	for _, x := range []saidCase{
		{"round", "ok\n"}, {"round\n", "ok\n"}, {"\nround", "ok\n"}, {"\nround\n", "ok\n"}, {"round\n\n", "ok\n"}, {"round\n ", "ok\n"}, {"round\n  ", "ok\n"},
		{"round\n#", "ok\n"}, {"round\nx", "ok\nerror form\n"}, {"round\nxy", "ok\nerror form\n"}, {"round\nround", "ok\nok\n"}, {"round\n\t", "ok\nerror form\n"},
		{"round\n\x00", "ok\nerror form\n"}, {"x", "error form\n"}, {"x\n", "error form\n"}, {"\n", ""}, {"\n\n\n", ""}, {"round\r\n", "error form\n"},
		{"round\rround", "error form\n"}, {"round\x0bround\n", "error form\n"}, {"round\u2028round", "error form\n"}, {"round\x85round", "error form\n"},
	} {
		wantConsoleSays(t, x.line, x.said)
		wantConsole(t, x.line)
	}
}

// TestP17HeardAsSaid: a text of any bytes but 10 is heard as it was said, without the blanks around it.
func TestP17HeardAsSaid(t *testing.T) {
	texts := slices.DeleteFunc(saidInLines(), func(text string) bool { return strings.Contains(text, "\n") })
	for b := range 256 {
		if b != '\n' && b != ' ' {
			texts = append(texts, string([]byte{byte(b)}), string([]byte{'x', byte(b), ' ', byte(b)}))
		}
	}
	for _, text := range texts {
		for _, around := range []int{0, 1, 50} {
			said := blanks(around) + text + blanks(around)
			wantConsoleSays(t, "say a "+said+"\nround\n", "ok\nb hears "+text+"\nok\n")
			wantConsoleSays(t, "say b "+said+"\nround\nround", "ok\na hears "+text+"\nok\nok\n")
		}
	}
}

// TestP17HowManyLines: lines that say nothing are counted too.
func TestP17HowManyLines(t *testing.T) {
	for _, x := range []saidCase{{"round", "ok\n"}, {"", ""}, {" ", ""}, {"#", ""}, {"queue", "0 0\n"}, {"x", "error form\n"}, {"hang a", "error none\n"}} {
		for _, n := range []int{1, 2, 99, 100} {
			lines := slices.Repeat([]string{x.line}, n)
			wantConsoleSays(t, linesText(lines, false), strings.Repeat(x.said, n))
			wantConsoleSays(t, linesText(lines, true), strings.Repeat(x.said, n))
		}
		lines := slices.Repeat([]string{x.line}, 100)
		for _, last := range []string{"\n", " ", "#", "x", "round", "round\n", "\n\n", " \n", "\x00"} {
			wantNothingSaid(t, fmt.Sprintf("100 of %q and %q", x.line, last), linesText(lines, false)+last, impl.ErrMany)
		}
		for _, n := range []int{101, 102, 200, 1000, 5000} {
			wantNothingSaid(t, fmt.Sprintf("%d of %q", n, x.line), linesText(slices.Repeat([]string{x.line}, n), false), impl.ErrMany)
		}
	}
	// the last line has no end, and no byte either: it is none
	wantConsoleSays(t, strings.Repeat("\n", 100), "")
	wantNothingSaid(t, "101 ends", strings.Repeat("\n", 101), impl.ErrMany)
	wantConsoleSays(t, strings.Repeat("\n", 99)+"round", "ok\n")
	wantNothingSaid(t, "100 ends and a line", strings.Repeat("\n", 100)+"round", impl.ErrMany)
}

// TestP17SilentLinesAmongThoseCounted puts one of them too many into each place.
func TestP17SilentLinesAmongThoseCounted(t *testing.T) {
	lines := slices.Repeat([]string{"round"}, 99)
	for at := range 100 {
		for _, silent := range silentLines() {
			with := slices.Insert(slices.Clone(lines), at, silent)
			wantConsoleSays(t, linesText(with, false), strings.Repeat("ok\n", 99))
			wantNothingSaid(t, "one line too many", linesText(slices.Insert(with, at, silent), false), impl.ErrMany)
		}
	}
}

func TestP17LongTexts(t *testing.T) {
	for _, x := range []saidCase{{"round", "ok\n"}, {"say a x", "ok\n"}, {"queue", "0 0\n"}, {"#", ""}, {"", ""}, {"x", "error form\n"}} {
		room := impl.MaxText - len(x.line)
		for _, text := range []string{x.line + blanks(room), blanks(room) + x.line, x.line + blanks(room-1) + "\n", x.line + "\n" + blanks(room-1)} {
			wantConsoleSays(t, text, x.said)
			for _, more := range []string{" ", "\n", "x"} {
				wantNothingSaid(t, "one byte more", text+more, impl.ErrLong)
				wantNothingSaid(t, "one byte more ahead", more+text, impl.ErrLong)
			}
		}
	}
	for _, piece := range []string{"\n", "x\n", " \n", "round\n"} {
		many := strings.Repeat(piece, impl.MaxText/len(piece)) + blanks(impl.MaxText%len(piece))
		wantNothingSaid(t, "many lines", many, impl.ErrMany)
		wantNothingSaid(t, "many lines in too long a text", many+" ", impl.ErrLong)
		wantNothingSaid(t, "many lines in a text that is far too long", strings.Repeat(many, 3), impl.ErrLong)
	}
	// 100 lines in all the bytes there may be
	lines := slices.Repeat([]string{"round" + blanks(650)}, 99)
	text := linesText(lines, false)
	wantConsoleSays(t, text+blanks(impl.MaxText-len(text)-5)+"queue", strings.Repeat("ok\n", 99)+"0 0\n")
	wantNothingSaid(t, "100 lines in one byte more", text+blanks(impl.MaxText-len(text)-4)+"queue", impl.ErrLong)
}

// TestP17AllShortTalks takes every run of a few lines.
func TestP17AllShortTalks(t *testing.T) {
	t.Parallel()
	choices := []string{"round", "round lose a", "round lose b", "round lose both", "say a", "say b", "hang a", "hang b", "queue"}
	var run func(lines []string)
	run = func(lines []string) {
		wantConsole(t, linesText(lines, len(lines)%2 == 0))
		if len(lines) < 6 {
			for _, line := range choices {
				if strings.HasPrefix(line, "say") {
					line += fmt.Sprint(" text ", len(lines))
				}
				run(append(slices.Clip(lines), line))
			}
		}
	}
	run([]string{"say a one", "say b eins"})
	run([]string{"say a"})
}

// TestP17LongTalks also counts what is said, so that all of it is known to be there.
func TestP17LongTalks(t *testing.T) {
	t.Parallel()
	times := map[string]int{}
	for k := range 3000 {
		lines := someLines(1+k%100, k%256, someBytes(300+k))
		said := wantConsole(t, linesText(lines, k%2 == 0))
		for line := range strings.Lines(said) {
			times[strings.Fields(line)[0]]++
		}
		for _, word := range []string{"error none", "error queue", "error form"} {
			times[word] += strings.Count(said, word)
		}
	}
	for word, least := range map[string]int{"ok": 50000, "a": 8000, "b": 8000, "error none": 300, "error queue": 300, "error form": 3000} {
		if times[word] < least {
			t.Errorf("%q was said %d times", word, times[word])
		}
	}
}

// TestP17FirstLines: what is said to the first lines of a text is the beginning of what is said to more of them.
func TestP17FirstLines(t *testing.T) {
	t.Parallel()
	for k := range 150 {
		lines := someLines(100, k%256, someBytes(300+k))
		before := ""
		for n := range len(lines) + 1 {
			said, code := impl.Console(linesText(lines[:n], false))
			if open, _ := impl.Console(linesText(lines[:n], true)); open != said {
				t.Fatalf("of %q without its end %q", lines[:n], open)
			}
			if code != impl.OK || !strings.HasPrefix(said, before) || said != "" && !strings.HasSuffix(said, "\n") {
				t.Fatalf("of %q %q is said, code %d; ahead of the last one %q", lines[:n], said, code, before)
			}
			before = said
		}
	}
}

// TestP17WhateverComesLater puts other lines behind the same first ones.
func TestP17WhateverComesLater(t *testing.T) {
	t.Parallel()
	for k := range 100 {
		first := someLines(50, k%256, someBytes(300+k))
		said := wantConsole(t, linesText(first, false))
		for m := range 20 {
			later := someLines(1+m*2, 128, someBytes(500+20*k+m))
			all, code := impl.Console(linesText(slices.Concat(first, later), true))
			if code != impl.OK || !strings.HasPrefix(all, said) {
				t.Fatalf("of %q %q is said; with %q behind %q", first, said, later, all)
			}
		}
		for _, later := range wrongLines() {
			if all, _ := impl.Console(linesText(append(slices.Clip(first), later), true)); all != said+"error form\n" {
				t.Fatalf("of %q %q is said; with %q behind %q", first, said, later, all)
			}
		}
	}
}

// TestP17SilentLinesAnywhere: lines that say nothing change nothing of what is said.
func TestP17SilentLinesAnywhere(t *testing.T) {
	t.Parallel()
	for k := range 300 {
		lines := someLines(30, k%256, someBytes(300+k))
		want := wantConsole(t, linesText(lines, false))
		for at := range len(lines) + 1 {
			silent := silentLines()[(k+at)%len(silentLines())]
			wantConsoleSays(t, linesText(slices.Insert(slices.Clone(lines), at, silent), false), want)
		}
		var with []string
		for i, line := range lines {
			with = append(with, silentLines()[(k+i)%len(silentLines())], line, silentLines()[(5*k+i)%len(silentLines())])
		}
		wantConsoleSays(t, linesText(with, false), want)
		without := slices.DeleteFunc(slices.Clone(lines), func(line string) bool { return slices.Contains(silentLines(), line) })
		wantConsoleSays(t, linesText(without, false), want)
	}
}

// toldByTalkRun is what TalkRun and ReadLine tell of lines: codes, what is new in both Inboxes, and how long both Queues are.
func toldByTalkRun(t *testing.T, lines []string) string {
	t.Helper()
	var acts []impl.TalkAct
	said, before := "", make([]impl.Peer, 2)
	for _, line := range lines {
		if slices.Contains(silentLines(), line) {
			continue
		}
		if line == "queue" {
			said += fmt.Sprintln(len(before[0].Queue), len(before[1].Queue))
			continue
		}
		act, code := impl.ReadLine(line)
		if code != impl.OK {
			said += "error " + impl.CodeWord(code) + "\n"
			continue
		}
		acts = append(acts, act)
		both, codes, code := impl.TalkRun(acts)
		if code != impl.OK {
			t.Fatal("TalkRun", code)
		}
		if code := codes[len(acts)-1]; code != impl.OK {
			said += "error " + impl.CodeWord(code) + "\n"
			continue
		}
		for who, p := range both {
			for _, text := range p.Inbox[len(before[who].Inbox):] {
				said += []string{"a", "b"}[who] + " hears " + text + "\n"
			}
		}
		said, before = said+"ok\n", both
	}
	return said
}

func TestP17AsTalkRunTells(t *testing.T) {
	t.Parallel()
	for k := range 300 {
		lines := someLines(100, k%256, someBytes(300+k))
		if want, said := toldByTalkRun(t, lines), wantConsole(t, linesText(lines, false)); said != want {
			t.Errorf("Console of %q: %q; TalkRun tells %q", lines, said, want)
		}
	}
}

// TestP17ScriptsOfTalks makes lines of acts and holds what is said against the codes and the Inboxes of the whole run.
func TestP17ScriptsOfTalks(t *testing.T) {
	t.Parallel()
	for k := range 500 {
		acts := someTalk(99, k%256, 20, someBytes(300+k))
		lines := []string{}
		for _, a := range acts {
			lines = append(lines, lineOf(a))
		}
		both, codes := wantTalk(t, acts)
		said := strings.Split(strings.TrimSuffix(wantConsole(t, linesText(append(lines, "queue"), true)), "\n"), "\n")
		heard, done := make([][]string, 2), []int{}
		for _, line := range said[:len(said)-1] {
			word, ok := strings.CutPrefix(line, "error ")
			if text, a := strings.CutPrefix(line, "a hears "); a {
				heard[0] = append(heard[0], text)
			} else if text, b := strings.CutPrefix(line, "b hears "); b {
				heard[1] = append(heard[1], text)
			} else if ok || line == "ok" {
				done = append(done, impl.CodeOf(word))
			}
		}
		if !slices.Equal(heard[0], both[0].Inbox) || !slices.Equal(heard[1], both[1].Inbox) || !slices.Equal(done, codes) {
			t.Fatalf("of %s %q is said; TalkRun: %+v, codes %v", actsTold(acts), said, both, codes)
		}
		if last := said[len(said)-1]; last != fmt.Sprintf("%d %d", len(both[0].Queue), len(both[1].Queue)) {
			t.Fatalf("queues of %+v: %q", both, last)
		}
	}
}

// TestP17AllHeard is the longest talk that a console has lines for.
func TestP17AllHeard(t *testing.T) {
	lines, want := []string{}, ""
	for i := range 33 {
		who := []string{"a", "b"}[i%2]
		lines = append(lines, fmt.Sprintf("say %s text %d", who, i), "round", "round")
		want += fmt.Sprintf("ok\n%s hears text %d\nok\nok\n", []string{"b", "a"}[i%2], i)
	}
	wantConsoleSays(t, linesText(append(lines, "queue"), true), want+"0 0\n")
}
