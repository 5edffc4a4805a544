package tests

import (
	"bytes"
	"encoding/binary"
	"fmt"
	"math"
	"slices"
	"strings"
	"testing"

	"loop.example/g00254/impl"
)

// otherMessage writes a right message by the numbers of the library.
func otherMessage(m impl.Message) []byte {
	b := binary.BigEndian.AppendUint32(nil, uint32(m.Round))
	b = binary.BigEndian.AppendUint16(b, uint16(m.Seq))
	b = binary.BigEndian.AppendUint16(b, uint16(m.Ack))
	b = append(b, m.Drop...)
	b = append(b, byte(len(m.Body)))
	b = append(b, m.Body...)
	return append(b, make([]byte, 64-len(b))...)
}

// otherReadMessage reads field by field, each at its place; the bool says that b is a right message's.
func otherReadMessage(b []byte) (impl.Message, bool) {
	if len(b) != 64 || b[16] > 40 {
		return impl.Message{}, false
	}
	end := 17 + int(b[16])
	m := impl.Message{
		Round: int(binary.BigEndian.Uint32(b)),
		Seq:   int(binary.BigEndian.Uint16(b[4:])),
		Ack:   int(binary.BigEndian.Uint16(b[6:])),
		Drop:  string(b[8:16]),
		Body:  string(b[17:end]),
	}
	if m.Round > 1000000 || !bytes.Equal(b[end:], make([]byte, 64-end)) {
		return impl.Message{}, false
	}
	return m, true
}

// told is the beginning of a value as Go writes it.
func told(value any) string { return fmt.Sprintf("%.200s", fmt.Sprintf("%#v", value)) }

func within(n, last int) bool { return n >= 0 && n <= last }

func rightMessage(m impl.Message) bool {
	return within(m.Round, 1000000) && within(m.Seq, 65535) && within(m.Ack, 65535) && len(m.Drop) == 8 && len(m.Body) <= 40
}

func someText(n int) string { return string(someBytes(n)) }

func someMessage() impl.Message {
	return impl.Message{Round: 0x0a0b0c, Seq: 0x1234, Ack: 0xfedc, Drop: someText(8), Body: someText(23)}
}

func edgeRounds() []int { return []int{-1, 0, 1000000, 1000001} }

func edgeSeqs() []int { return []int{-1, 0, 65535, 65536} }

// farNumbers are right nowhere, though what some of them leave in a few bytes is.
func farNumbers() []int {
	return []int{-2, -256, -65536, math.MinInt, math.MinInt32, 1000002, 1 << 24, 1 << 31, 1<<32 - 1, 1 << 32, 1<<32 + 1, 1 << 48, 1<<63 - 1}
}

// edgeMessages are all that stand at an end of each field or beyond it, right ones and wrong ones.
func edgeMessages() []impl.Message {
	var out []impl.Message
	for _, round := range edgeRounds() {
		for _, seq := range edgeSeqs() {
			for _, ack := range edgeSeqs() {
				for _, drop := range []int{7, 8, 9} {
					for _, body := range []int{0, 1, 40, 41} {
						out = append(out, impl.Message{Round: round, Seq: seq, Ack: ack, Drop: someText(drop), Body: someText(body)})
					}
				}
			}
		}
	}
	return out
}

// wrongMessages have one wrong field each.
func wrongMessages() []impl.Message {
	var out []impl.Message
	add := func(change func(m *impl.Message)) {
		m := someMessage()
		change(&m)
		out = append(out, m)
	}
	for _, n := range farNumbers() {
		add(func(m *impl.Message) { m.Round = n })
		add(func(m *impl.Message) { m.Seq = n })
		add(func(m *impl.Message) { m.Ack = n })
	}
	for _, size := range []int{0, 1, 7, 9, 16, 264, impl.MaxText, impl.MaxText + 1} {
		add(func(m *impl.Message) { m.Drop = strings.Repeat("\x00", size) })
	}
	for _, size := range []int{41, 47, 48, 255, 256, 257, 296, impl.MaxText, impl.MaxText + 1} {
		add(func(m *impl.Message) { m.Body = strings.Repeat("\x00", size) })
	}
	return append(out, impl.Message{})
}

// someBodies have each length, and noughts in front, at the end, everywhere and nowhere.
func someBodies() []string {
	out := []string{"\x00a\x00", "a\x00\x00", "\x00\x00a", "\x00", "\xff\xfe", "\n"}
	for n := range 41 {
		out = append(out, someText(n), noughts(n), ones(n), someText(n/2)+noughts(n-n/2), noughts(n/2)+someText(n-n/2))
	}
	return out
}

func rightMessages() []impl.Message {
	var out []impl.Message
	for _, m := range edgeMessages() {
		if rightMessage(m) {
			out = append(out, m)
		}
	}
	for _, n := range []int{1, 255, 256, 257, 32767, 32768, 65534, 65536, 1 << 17, 999999} {
		out = append(out, impl.Message{Round: n, Seq: n % 65536, Ack: (n + 1) % 65536, Drop: noughts(8), Body: "n"})
	}
	for i, body := range someBodies() {
		m := someMessage()
		m.Body = body
		m.Drop = []string{someText(8), noughts(8), ones(8), "\x00abcdef\x00"}[i%4]
		out = append(out, m)
	}
	return out
}

func TestP6MessageConstants(t *testing.T) {
	if impl.MessageSize != 64 || impl.MaxBody != 40 || impl.MaxItems != 64 || impl.MaxItem != 400 {
		t.Error("constants:", impl.MessageSize, impl.MaxBody, impl.MaxItems, impl.MaxItem)
	}
}

func TestP6MessageRightOrWrong(t *testing.T) {
	for _, m := range slices.Concat(edgeMessages(), rightMessages(), wrongMessages()) {
		if got := impl.MessageOK(m); got != rightMessage(m) {
			t.Errorf("MessageOK of %s: %t", told(m), got)
		}
	}
}

func TestP6MessageBytesWrittenOut(t *testing.T) {
	m := impl.Message{Round: 1000000, Seq: 0x1234, Ack: 0xfedc, Drop: "\x00bcdefg\x00", Body: "a\x00b\x00"}
	want := "\x00\x0f\x42\x40" + "\x12\x34" + "\xfe\xdc" + "\x00bcdefg\x00" + "\x04" + "a\x00b\x00" + noughts(43)
	got, code := impl.MessageBytes(m)
	wantText(t, "MessageBytes", string(got), code, want)
	got, code = impl.MessageBytes(impl.Message{Drop: noughts(8)})
	wantText(t, "MessageBytes of noughts", string(got), code, noughts(64))
}

func TestP6MessageBytes(t *testing.T) {
	for _, m := range slices.Concat(edgeMessages(), rightMessages(), wrongMessages()) {
		got, code := impl.MessageBytes(m)
		call := "MessageBytes of " + told(m)
		if rightMessage(m) {
			wantText(t, call, string(got), code, string(otherMessage(m)))
		} else {
			wantCode(t, call, string(got), code, impl.ErrBad)
		}
	}
}

func TestP6MessagesHaveOneLength(t *testing.T) {
	for _, m := range rightMessages() {
		if got, code := impl.MessageBytes(m); len(got) != 64 || code != impl.OK {
			t.Errorf("MessageBytes of %s: %d bytes, code %d", told(m), len(got), code)
		}
	}
}

func TestP6MessagesAreReadBack(t *testing.T) {
	for _, m := range rightMessages() {
		b, code := impl.MessageBytes(m)
		if code != impl.OK {
			t.Errorf("MessageBytes of %s: code %d", told(m), code)
		}
		if got, code := impl.ReadMessage(b); got != m || code != impl.OK {
			t.Errorf("ReadMessage: got %s, code %d; want %s", told(got), code, told(m))
		}
	}
}

// wantMessageRead holds ReadMessage against the other reader, and what is read against the bytes it has.
func wantMessageRead(t *testing.T, call string, b []byte) {
	t.Helper()
	want, right := otherReadMessage(b)
	wanted := impl.OK
	if !right {
		wanted = impl.ErrForm
	}
	got, code := impl.ReadMessage(b)
	if got != want || code != wanted {
		t.Errorf("ReadMessage, %s: got %s, code %d; want %s, code %d", call, told(got), code, told(want), wanted)
	}
	if code == impl.OK {
		written, code := impl.MessageBytes(got)
		wantText(t, "MessageBytes, "+call, string(written), code, string(b))
	}
}

// TestP6EachByteOfAMessage puts each byte at each place of some messages.
func TestP6EachByteOfAMessage(t *testing.T) {
	full, empty := someMessage(), someMessage()
	full.Body, empty.Body = someText(40), ""
	for _, m := range []impl.Message{someMessage(), full, empty, {Drop: noughts(8)}, {Round: 1000000, Drop: ones(8), Body: noughts(5)}} {
		for place := range 64 {
			for c := range 256 {
				b := otherMessage(m)
				b[place] = byte(c)
				wantMessageRead(t, fmt.Sprint(c, " at ", place, " of ", told(m)), b)
			}
		}
	}
}

func wantNoMessage(t *testing.T, call string, b []byte, want int) {
	t.Helper()
	if got, code := impl.ReadMessage(b); got != (impl.Message{}) || code != want {
		t.Errorf("ReadMessage, %s: got %s, code %d; want nothing, code %d", call, told(got), code, want)
	}
}

func TestP6MessagesOfAnotherLength(t *testing.T) {
	for _, m := range []impl.Message{someMessage(), {Drop: noughts(8)}} {
		whole := append(otherMessage(m), make([]byte, impl.MaxText)...)
		for n := range 200 {
			if n != 64 {
				wantNoMessage(t, fmt.Sprint(n, " bytes"), whole[:n], impl.ErrForm)
			}
		}
		for _, n := range []int{128, 256 + 64, 65535, impl.MaxText} {
			wantNoMessage(t, fmt.Sprint(n, " bytes"), whole[:n], impl.ErrForm)
		}
	}
	// the length of Body leads to the end of a longer list, or beyond that of a shorter one
	for n := range 100 {
		b := slices.Concat(otherMessage(impl.Message{Drop: noughts(8)})[:16], []byte{byte(n)}, someBytes(n))
		if len(b) != 64 {
			wantNoMessage(t, fmt.Sprint("a body of ", n, " bytes without noughts"), b, impl.ErrForm)
		}
		if n > 0 {
			wantNoMessage(t, fmt.Sprint("a body of ", n, " bytes cut off"), b[:len(b)-1], impl.ErrForm)
		}
	}
}

func TestP6WrongFieldsOfAMessage(t *testing.T) {
	for _, length := range []byte{41, 42, 46, 47, 48, 64, 127, 128, 254, 255} {
		for _, fill := range []string{noughts(47), ones(47)} {
			b := []byte(noughts(16) + string([]byte{length}) + fill)
			wantNoMessage(t, fmt.Sprint("a body of ", length, " bytes"), b, impl.ErrForm)
		}
	}
	for _, round := range []uint32{1000001, 1000002, 1 << 20, 1 << 24, 1 << 31, 1<<32 - 1} {
		b := otherMessage(someMessage())
		binary.BigEndian.PutUint32(b, round)
		wantNoMessage(t, fmt.Sprint("round ", round), b, impl.ErrForm)
	}
	for size := range 41 {
		m := someMessage()
		m.Body = someText(size)
		for place := 17 + size; place < 64; place++ {
			for _, c := range []byte{1, 0x80, 0xff} {
				b := otherMessage(m)
				b[place] = c
				wantNoMessage(t, fmt.Sprint(c, " at ", place, " behind a body of ", size, " bytes"), b, impl.ErrForm)
			}
		}
	}
}
