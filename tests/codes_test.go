package tests

import (
	"math"
	"strings"
	"testing"

	"loop.example/g00254/impl"
)

var codeTable = []struct {
	code, number int
	word         string
}{
	{impl.OK, 0, "ok"}, {impl.ErrBad, 1, "bad"}, {impl.ErrLong, 2, "long"}, {impl.ErrForm, 3, "form"},
	{impl.ErrRange, 4, "range"}, {impl.ErrNone, 5, "none"}, {impl.ErrMany, 6, "many"}, {impl.ErrFull, 7, "full"},
	{impl.ErrSum, 8, "sum"}, {impl.ErrTwice, 9, "twice"}, {impl.ErrSealed, 10, "sealed"}, {impl.ErrRoot, 11, "root"},
	{impl.ErrReplay, 12, "replay"}, {impl.ErrLate, 13, "late"}, {impl.ErrMissing, 14, "missing"},
	{impl.ErrAborted, 15, "aborted"}, {impl.ErrSilent, 16, "silent"}, {impl.ErrQueue, 17, "queue"},
	{impl.ErrAgain, 18, "again"}, {impl.ErrZero, 19, "zero"},
}

func TestP1Limits(t *testing.T) {
	if impl.MaxText != 65536 || impl.MaxList != 4096 || impl.MaxName != 40 || impl.FieldSize != 32 {
		t.Error("limits", impl.MaxText, impl.MaxList, impl.MaxName, impl.FieldSize)
	}
}

func TestP1CodesAndWords(t *testing.T) {
	if len(codeTable) != 20 {
		t.Fatal("the table has", len(codeTable))
	}
	for _, x := range codeTable {
		if x.code != x.number {
			t.Error(x.word, "is", x.code, "not", x.number)
		}
		if got := impl.CodeWord(x.number); got != x.word {
			t.Errorf("CodeWord(%d) = %q, want %q", x.number, got, x.word)
		}
		if got := impl.CodeOf(x.word); got != x.number {
			t.Errorf("CodeOf(%q) = %d, want %d", x.word, got, x.number)
		}
	}
}

func TestP1NumbersThatAreNoCodes(t *testing.T) {
	for _, n := range []int{-1, -2, -20, 20, 21, 64, 255, 256, 1 << 32, -(1 << 32), math.MinInt, math.MaxInt} {
		if got := impl.CodeWord(n); got != "" {
			t.Errorf("CodeWord(%d) = %q", n, got)
		}
	}
}

func TestP1WordsThatAreNone(t *testing.T) {
	words := []string{"", " ", "OK", "Ok", "o", "k", "okk", "ok ", " ok", "ok\x00", "ok\n", "ErrBad", "ErrZero", "0", "-1", "19", "zer", "zeroo", "ZERO", "\xff", "é", "okbad"}
	for _, x := range codeTable {
		words = append(words, x.word+x.word, x.word[1:], x.word[:len(x.word)-1], strings.ToUpper(x.word))
	}
	for _, n := range []int{impl.MaxText - 1, impl.MaxText, impl.MaxText + 1, 4 * impl.MaxText} {
		words = append(words, strings.Repeat("o", n), "ok"+strings.Repeat(" ", n-2), "ok"+strings.Repeat("\x00", n-2))
	}
	for _, w := range words {
		if got := impl.CodeOf(w); got != -1 {
			t.Errorf("CodeOf of %d bytes, %.20q: %d, want -1", len(w), w, got)
		}
	}
}

func TestP1NamesByLength(t *testing.T) {
	for _, c := range []string{"a", "z", "A", "Z", "_"} {
		for n := range 100 {
			if got, want := impl.NameOK(strings.Repeat(c, n)), n >= 1 && n <= 40; got != want {
				t.Errorf("NameOK of %d times %q: %v", n, c, got)
			}
		}
		for _, n := range []int{impl.MaxText, impl.MaxText + 1} {
			if impl.NameOK(strings.Repeat(c, n)) {
				t.Errorf("NameOK of %d times %q", n, c)
			}
		}
	}
	if !impl.NameOK("a"+strings.Repeat("9", 39)) || impl.NameOK("a"+strings.Repeat("9", 40)) {
		t.Error("NameOK with digits, at MaxName")
	}
}

func TestP1NamesByByte(t *testing.T) {
	const letters = "abcdefghijklmnopqrstuvwxyzABCDEFGHIJKLMNOPQRSTUVWXYZ_"
	for i := range 256 {
		c := string([]byte{byte(i)})
		letter := strings.Contains(letters, c)
		digit := strings.Contains("0123456789", c)
		if got := impl.NameOK(c); got != letter {
			t.Errorf("NameOK(%q) = %v", c, got)
		}
		if got := impl.NameOK(c + "a"); got != letter {
			t.Errorf("NameOK(%q) = %v", c+"a", got)
		}
		for _, name := range []string{"a" + c, "_" + c + "Z", "x" + strings.Repeat("y", 38) + c} {
			if got := impl.NameOK(name); got != (letter || digit) {
				t.Errorf("NameOK(%q) = %v", name, got)
			}
		}
	}
	for _, name := range []string{"a-b", "a b", "a.b", "9", "9a", "é", "aé", "a\x00", "a\n", "-a", " a", "a "} {
		if impl.NameOK(name) {
			t.Errorf("NameOK(%q)", name)
		}
	}
	for _, name := range []string{"_", "__", "a_1", "Alice", "bob2", "_9", "zZ0", "x00"} {
		if !impl.NameOK(name) {
			t.Errorf("not NameOK(%q)", name)
		}
	}
}
