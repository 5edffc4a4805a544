package tests

import (
	"fmt"
	"slices"
	"strings"
	"testing"
	"unsafe"

	"loop.example/g00254/impl"
)

// manyTexts are lines and texts of all kinds, right ones and wrong ones.
func manyTexts() []string {
	out := slices.Concat(silentLines(), wrongLines(), saidInLines())
	for _, x := range actLines() {
		out = append(out, strings.Join(x.words, " "), strings.Join(x.words, "  ")+"\n")
	}
	for k := range 60 {
		out = append(out, linesText(someLines(1+k, k, someBytes(300+k)), k%2 == 0), someText(k))
	}
	for _, n := range []int{impl.MaxText - 1, impl.MaxText, impl.MaxText + 1} {
		for _, piece := range []string{" ", "\n", "#", "x", "\x00"} {
			out = append(out, strings.Repeat(piece, n))
		}
	}
	return out
}

// TestP1ConsoleCodes holds each code, and what comes beside it, against what the chapter names, over texts of all kinds.
func TestP1ConsoleCodes(t *testing.T) {
	for _, text := range manyTexts() {
		wantReadAlike(t, text)
		wantConsole(t, text)
		for _, more := range []string{"", " ", "\n", "x"} {
			many, long := strings.Repeat("\n", 101)+text+more, text+more+blanks(impl.MaxText)
			wantConsole(t, many)
			if text+more == "" {
				continue
			}
			wantNothingSaid(t, "too long a text", long, impl.ErrLong)
			wantNothingSaid(t, "too long a text of too many lines", strings.Repeat("\n", 101)+long, impl.ErrLong)
			wantLine(t, long, impl.TalkAct{}, impl.ErrLong)
		}
	}
}

// TestP1AnyBytesOfALine: nothing panics, whatever bytes there are, and what is said is right.
func TestP1AnyBytesOfALine(t *testing.T) {
	t.Parallel()
	for k := range 20000 {
		bytes := someBytes(k%97 + k/97)
		wantReadAlike(t, string(bytes))
		wantConsole(t, string(bytes))
		for i, b := range bytes {
			// few different bytes make more lines and words
			bytes[i] = "say aboundhngleq#\n  \n"[b%21]
		}
		wantReadAlike(t, string(bytes))
		wantConsole(t, string(bytes))
	}
	for a := range 256 {
		for b := range 256 {
			wantReadAlike(t, string([]byte{byte(a), byte(b)}))
			wantConsole(t, string([]byte{byte(a), byte(b)}))
		}
	}
}

// consoleAnswers tells what both functions of the chapter answer, in one order or the other; a call is known by the place
// of its text, for that would be long.
func consoleAnswers() func(backwards bool) map[string]string {
	texts := manyTexts()
	return func(backwards bool) map[string]string {
		out := map[string]string{}
		for i := range texts {
			if backwards {
				i = len(texts) - 1 - i
			}
			out[fmt.Sprint("ReadLine of ", i)] = fmt.Sprintln(impl.ReadLine(texts[i]))
			out[fmt.Sprint("Console of ", i)] = fmt.Sprintln(impl.Console(texts[i]))
		}
		return out
	}
}

func TestP1ConsolesAlikeArgumentsAlikeAnswers(t *testing.T) { wantAlike(t, consoleAnswers()) }

func TestP1ConsolesBesideEachOther(t *testing.T) { wantAlikeBeside(t, consoleAnswers()) }

// TestP1ConsolesHangOnNothingAhead: what was said in another text, and what was refused there, changes nothing.
func TestP1ConsolesHangOnNothingAhead(t *testing.T) {
	text := "queue\nsay a one\nround\nqueue\nsay b two\nround\nqueue\nhang a\n"
	want := "0 0\nok\nb hears one\nok\n1 0\nok\na hears two\nok\n0 1\nerror none\n"
	for k, ahead := range manyTexts() {
		impl.Console(ahead)
		impl.ReadLine(ahead)
		if said, code := impl.Console(text); said != want || code != impl.OK {
			t.Fatalf("behind %s, %d: %q, code %d", lineTold(ahead), k, said, code)
		}
		wantLine(t, "say a one", sayAct(0, "one"), impl.OK)
		wantNoLine(t, "say")
	}
}

// liesWithin says whether a text lies in the memory of another one.
func liesWithin(text, whole string) bool {
	if text == "" || whole == "" {
		return false
	}
	at, begin := uintptr(unsafe.Pointer(unsafe.StringData(text))), uintptr(unsafe.Pointer(unsafe.StringData(whole)))
	return at >= begin && at < begin+uintptr(len(whole))
}

func TestP1ConsoleTextsAreNewMemory(t *testing.T) {
	for _, text := range saidInLines() {
		line := strings.Clone("say a " + text)
		first, _ := impl.ReadLine(line)
		second, _ := impl.ReadLine(line)
		if liesWithin(first.Text, line) || text != "" && sharesText(first.Text, second.Text) {
			t.Errorf("ReadLine of %q answers in the memory of its argument, or of another answer", line)
		}
		said, _ := impl.Console(line)
		again, _ := impl.Console(line)
		if liesWithin(said, line) || sharesText(said, again) {
			t.Errorf("Console of %q answers in the memory of its argument, or of another answer", line)
		}
	}
}

// TestP1ConsoleArgumentsStay lays a text over bytes that could be seen to change.
func TestP1ConsoleArgumentsStay(t *testing.T) {
	for _, text := range manyTexts() {
		if text == "" {
			continue
		}
		inside, whole := guarded([]byte(text))
		over := unsafe.String(&inside[0], len(inside))
		act, code := impl.ReadLine(over)
		said, consoleCode := impl.Console(over)
		if _, want := guarded([]byte(text)); !slices.Equal(whole, want) {
			t.Fatalf("%s was written into, or around it", lineTold(text))
		}
		// once the argument is gone the answers stay
		clear(whole)
		wantedAct, wantedCode := otherReadLine(text)
		wanted, wantedConsole := otherConsole(text)
		if act != wantedAct || code != wantedCode || said != wanted || consoleCode != wantedConsole {
			t.Fatalf("answers to %s hang on the memory of the argument", lineTold(text))
		}
	}
}
