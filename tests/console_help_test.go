package tests

import (
	"fmt"
	"regexp"
	"slices"
	"strings"
	"testing"

	"loop.example/g00254/impl"
)

// lineForms are what the lines of the chapter look like; the program knows nothing of expressions.
type lineForms struct{ say, round, hang *regexp.Regexp }

var formsOfLines = lineForms{
	say:   regexp.MustCompile(`(?s)^ *say +([ab])(?: +(.*?))? *$`),
	round: regexp.MustCompile(`^ *round(?: +lose +(a|b|both))? *$`),
	hang:  regexp.MustCompile(`^ *hang +([ab]) *$`),
}

func whoOf(word string) int { return map[string]int{"a": 0, "b": 1}[word] }

func otherReadLine(line string) (impl.TalkAct, int) {
	if len(line) > 65536 {
		return impl.TalkAct{}, impl.ErrLong
	}
	if m := formsOfLines.say.FindStringSubmatch(line); m != nil && len(m[2]) <= 40 {
		return sayAct(whoOf(m[1]), m[2]), impl.OK
	}
	if m := formsOfLines.round.FindStringSubmatch(line); m != nil {
		return roundAct(m[1] == "a" || m[1] == "both", m[1] == "b" || m[1] == "both"), impl.OK
	}
	if m := formsOfLines.hang.FindStringSubmatch(line); m != nil {
		return hangAct(whoOf(m[1])), impl.OK
	}
	return impl.TalkAct{}, impl.ErrForm
}

func lineTold(line string) string {
	if len(line) > 200 {
		return fmt.Sprintf("%d bytes, %.100q ...", len(line), line)
	}
	return fmt.Sprintf("%q", line)
}

func wantLine(t *testing.T, line string, want impl.TalkAct, wanted int) {
	t.Helper()
	if act, code := impl.ReadLine(line); act != want || code != wanted {
		t.Errorf("ReadLine of %s: %+v, code %d; want %+v, code %d", lineTold(line), act, code, want, wanted)
	}
}

func wantNoLine(t *testing.T, line string) {
	t.Helper()
	wantLine(t, line, impl.TalkAct{}, impl.ErrForm)
}

// wantReadAlike holds a line against what the chapter's lines look like.
func wantReadAlike(t *testing.T, line string) (impl.TalkAct, int) {
	t.Helper()
	want, wanted := otherReadLine(line)
	wantLine(t, line, want, wanted)
	return want, wanted
}

// lineCase is a line, word by word, and its act.
type lineCase struct {
	words []string
	act   impl.TalkAct
}

// actLines are all lines of the chapter that are acts, those that say something with a text of one word.
func actLines() []lineCase {
	return []lineCase{
		{[]string{"say", "a", "text"}, sayAct(0, "text")},
		{[]string{"say", "b", "text"}, sayAct(1, "text")},
		{[]string{"round"}, roundAct(false, false)},
		{[]string{"round", "lose", "a"}, roundAct(true, false)},
		{[]string{"round", "lose", "b"}, roundAct(false, true)},
		{[]string{"round", "lose", "both"}, roundAct(true, true)},
		{[]string{"hang", "a"}, hangAct(0)},
		{[]string{"hang", "b"}, hangAct(1)},
	}
}

// silentLines say nothing.
func silentLines() []string {
	return []string{"", " ", "    ", "#", "##", "# a remark", "#say a text", "  # say a text", "#\x00\xff", " #queue ", "#round", "#\t"}
}

// wrongLines are no acts, no questions, and say something.
func wrongLines() []string {
	return []string{
		"say", "say c text", "say A text", "say ab text", "say  ", "said a text", "Say a text", "saya text", "hang", "hang c", "hang both", "hang a b",
		"round lose", "round lose c", "round lose a b", "round keep a", "round a", "rounds", "queue a", "queues", "Queue", "que ue", "lose a", "a", "b",
		"ok", "error form", "\tround", "round\t", "round\r", "\x00", "\xff", "a # remark", "round # remark", "hang a # remark", "queue # remark",
		"say a " + strings.Repeat("x", 41),
	}
}

// otherConsole talks without frames, and takes a text's lines by what they look like.
func otherConsole(text string) (string, int) {
	if len(text) > 65536 {
		return "", impl.ErrLong
	}
	lines := regexp.MustCompile(`[^\n]*\n|[^\n]+`).FindAllString(text, -1)
	if len(lines) > 100 {
		return "", impl.ErrMany
	}
	var o otherTalk
	var said strings.Builder
	for _, line := range lines {
		said.WriteString(o.saidTo(strings.ReplaceAll(line, "\n", "")))
	}
	return said.String(), impl.OK
}

func (o *otherTalk) saidTo(line string) string {
	words := slices.DeleteFunc(strings.Split(line, " "), func(word string) bool { return word == "" })
	if len(words) == 0 || words[0][0] == '#' {
		return ""
	}
	if len(words) == 1 && words[0] == "queue" {
		return fmt.Sprintln(len(o[0].said)-o[0].known, len(o[1].said)-o[1].known)
	}
	before := *o
	act, code := otherReadLine(line)
	if code == impl.OK {
		code = o.do(act)
	}
	if code != impl.OK {
		return "error " + impl.CodeWord(code) + "\n"
	}
	out := ""
	for who, name := range []string{"a", "b"} {
		for _, text := range o[1-who].said[before[1-who].heard:o[1-who].heard] {
			out += name + " hears " + text + "\n"
		}
	}
	return out + "ok\n"
}

func wantConsoleSays(t *testing.T, text, want string) {
	t.Helper()
	if said, code := impl.Console(text); said != want || code != impl.OK {
		t.Errorf("Console of %.3000q: code %d\n%.3000q; want\n%.3000q", text, code, said, want)
	}
}

func wantNothingSaid(t *testing.T, name, text string, want int) {
	t.Helper()
	if said, code := impl.Console(text); said != "" || code != want {
		t.Errorf("Console of %s: %.200q, code %d; want nothing, code %d", name, said, code, want)
	}
}

// wantConsole holds what is said against one that knows of no frames.
func wantConsole(t *testing.T, text string) string {
	t.Helper()
	want, wanted := otherConsole(text)
	said, code := impl.Console(text)
	if said != want || code != wanted {
		t.Fatalf("Console of %.3000q: code %d\n%.3000q; want code %d\n%.3000q", text, code, said, wanted, want)
	}
	return said
}

// linesText ends each line; open leaves the last one without its end.
func linesText(lines []string, open bool) string {
	text := strings.Join(lines, "\n")
	if !open && len(lines) > 0 {
		text += "\n"
	}
	return text
}

// someLines look like any others: of 256 rounds so many lose each of both, and all kinds of lines are among them.
func someLines(n, losing int, bytes []byte) []string {
	var out []string
	for i := range n {
		luck, a, b := int(bytes[3*i]), int(bytes[3*i+1]), int(bytes[3*i+2])
		who := []string{"a", "b"}[a%2]
		switch {
		case luck < 80:
			out = append(out, fmt.Sprintf("say %s text %d", who, i))
		case luck < 90:
			out = append(out, "say "+who)
		case luck < 110:
			out = append(out, "hang "+who)
		case luck < 130:
			out = append(out, "queue")
		case luck < 145:
			out = append(out, silentLines()[b%len(silentLines())])
		case luck < 155:
			out = append(out, wrongLines()[b%len(wrongLines())])
		default:
			out = append(out, losingLine(a < losing, b < losing))
		}
	}
	return out
}

func losingLine(a, b bool) string {
	switch {
	case a && b:
		return "round lose both"
	case a:
		return "round lose a"
	case b:
		return "round lose b"
	}
	return "round"
}
