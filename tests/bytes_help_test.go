package tests

import (
	"bytes"
	"slices"
	"testing"
)

// bytesCall is a function with its lists of bytes in one list; texts and a number may stand among them.
type bytesCall struct {
	name   string
	places int
	call   func(list [][]byte, n int) (string, int)
}

// shortLists are as many lists as a call has places for, each of them of a length of its own.
func shortLists(places int) [][]byte {
	var out [][]byte
	for i := range places {
		out = append(out, someBytes(20+10*i))
	}
	return out
}

func listsOf(places, size int) [][]byte {
	var out [][]byte
	for range places {
		out = append(out, someBytes(size))
	}
	return out
}

// guarded lies in the middle of a list whose other bytes no call has to do with.
func guarded(b []byte) (inside, whole []byte) {
	whole = slices.Concat(bytes.Repeat([]byte{0xa5}, 100), b, bytes.Repeat([]byte{0x5a}, 300))
	return whole[100 : 100+len(b)], whole
}

// wantNoWriting asks that a call writes neither into a list nor around it.
func wantNoWriting(t *testing.T, f bytesCall, lists [][]byte, n int) {
	t.Helper()
	inside, wholes := make([][]byte, len(lists)), make([][]byte, len(lists))
	for i, b := range lists {
		inside[i], wholes[i] = guarded(b)
	}
	f.call(inside, n)
	for i, b := range lists {
		if _, want := guarded(b); !bytes.Equal(wholes[i], want) {
			t.Errorf("%s, %d: argument %d, of %d bytes, was written into, or around it", f.name, n, i, len(b))
		}
	}
}

// wantNothingReadBehind: what lies behind a list's end, and how much room is there, is not to be seen in an answer.
func wantNothingReadBehind(t *testing.T, f bytesCall, lists [][]byte, n int) {
	t.Helper()
	tight, roomy := make([][]byte, len(lists)), make([][]byte, len(lists))
	for i, b := range lists {
		tight[i] = slices.Clip(slices.Clone(b))
		roomy[i], _ = guarded(b)
	}
	want, wantedCode := f.call(tight, n)
	if got, code := f.call(roomy, n); got != want || code != wantedCode {
		t.Errorf("%s, %d: %x, code %d; with bytes behind %x, code %d", f.name, n, want, wantedCode, got, code)
	}
}

// wantNilAsEmpty puts nil and empty lists into each place.
func wantNilAsEmpty(t *testing.T, f bytesCall, lists [][]byte, n int) {
	t.Helper()
	for place := range lists {
		with := slices.Clone(lists)
		with[place] = nil
		want, wantedCode := f.call(with, n)
		for _, empty := range [][]byte{{}, make([]byte, 0, 100)} {
			with[place] = empty
			if got, code := f.call(with, n); got != want || code != wantedCode {
				t.Errorf("%s, %d: nil and an empty list at %d differ", f.name, n, place)
			}
		}
	}
}
