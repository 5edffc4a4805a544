package tests

import (
	"encoding/binary"
	"fmt"
	"slices"
	"testing"

	"loop.example/g00254/impl"
)

// otherTagged is what stands under the tag of a box.
func otherTagged(extra, sealed []byte) []byte {
	var out []byte
	for _, b := range [][]byte{extra, sealed} {
		out = append(out, b...)
		for len(out)%16 > 0 {
			out = append(out, 0)
		}
	}
	out = binary.LittleEndian.AppendUint64(out, uint64(len(extra)))
	return binary.LittleEndian.AppendUint64(out, uint64(len(sealed)))
}

// otherBox has a box of any length by the other ways to a stream and a tag.
func otherBox(key, nonce string, extra, b []byte) []byte {
	sealed := otherXor(key, nonce, 1, b)
	return append(sealed, otherTag(otherBlock(key, nonce, 0)[:32], otherTagged(extra, sealed))...)
}

func wantSealed(t *testing.T, call, key, nonce string, extra, box []byte) {
	t.Helper()
	got, code := impl.OpenBox(key, nonce, extra, box)
	wantCode(t, "OpenBox "+call, string(got), code, impl.ErrSealed)
}

func wantBox(t *testing.T, key, nonce string, extra, b []byte) {
	t.Helper()
	call := fmt.Sprint("of ", len(extra), " and ", len(b), " bytes")
	box, code := impl.SealBox(key, nonce, extra, b)
	wantText(t, "SealBox "+call, string(box), code, string(otherBox(key, nonce, extra, b)))
	got, code := impl.OpenBox(key, nonce, extra, box)
	wantText(t, "OpenBox "+call, string(got), code, string(b))
}

func TestP5BoxVectors(t *testing.T) {
	// RFC 8439: 2.8.2 and A.5
	for _, x := range []struct{ key, nonce, extra, text, want string }{
		{
			string(numbered(0x80, 32)), "070000004041424344454647", "50515253c0c1c2c3c4c5c6c7", sunscreen,
			"d31a8d34648e60db7b86afbc53ef7ec2a4aded51296e08fea9e2b5a736ee62d63dbea45e8ca9671282fafb69da92728b" +
				"1a71de0a9e060b2905d6a5b67ecd3b3692ddbd7f2d778b8c9803aee328091b58fab324e4fad675945585808b4831d7bc" +
				"3ff4def08e4b7a9de576d26586cec64b6116" + "1ae10b594f09e26a7e902ecbd0600691",
		},
		{
			unhex(t, jabberwockyKey), "000000000102030405060708", "f33388860000000000004e91",
			"Internet-Drafts are draft documents valid for a maximum of six months and may be updated, replaced, or " +
				"obsoleted by other documents at any time. It is inappropriate to use Internet-Drafts as reference " +
				"material or to cite them other than as /“work in progress./”",
			"64a0861575861af460f062c79be643bd5e805cfd345cf389f108670ac76c8cb24c6cfc18755d43eea09ee94e382d26b0" +
				"bdb7b73c321b0100d4f03b7f355894cf332f830e710b97ce98c8a84abd0b948114ad176e008d33bd60f982b1ff37c855" +
				"9797a06ef4f0ef61c186324e2b3506383606907b6a7c02b0f9f6157b53c867e4b9166c767b804d46a59b5216cde7a4e9" +
				"9040c5a40433225ee282a1b0a06c523eaf4534d7f83fa1155b0047718cbc546a0d072b04b3564eea1b422273f548271a" +
				"0bb2316053fa76991955ebd63159434ecebb4e466dae5a1073a6727627097a1049e617d91d361094fa68f0ff77987130" +
				"305beaba2eda04df997b714d6c6f2c29a6ad5cb4022b02709b" + "eead9d67890cbb22392336fea1851f38",
		},
	} {
		nonce, extra := unhex(t, x.nonce), []byte(unhex(t, x.extra))
		box, code := impl.SealBox(x.key, nonce, extra, []byte(x.text))
		wantText(t, fmt.Sprintf("SealBox %.20q", x.text), string(box), code, unhex(t, x.want))
		got, code := impl.OpenBox(x.key, nonce, extra, []byte(unhex(t, x.want)))
		wantText(t, fmt.Sprintf("OpenBox %.20q", x.text), string(got), code, x.text)
	}
}

func boxSizes() []int {
	return []int{0, 1, 2, 14, 15, 16, 17, 31, 32, 33, 47, 48, 49, 63, 64, 65, 127, 128, 129}
}

func TestP5BoxesOfAllSizes(t *testing.T) {
	for _, extra := range boxSizes() {
		for _, b := range boxSizes() {
			wantBox(t, someKey(), someNonce(), someBytes(extra), someBytes(b))
			wantBox(t, ones(32), ones(12), make([]byte, extra), make([]byte, b))
			wantBox(t, noughts(32), noughts(12), []byte(ones(extra)), []byte(ones(b)))
		}
	}
}

// TestP5BoxesOfMostBytes: under the tag there is more than MaxText then.
func TestP5BoxesOfMostBytes(t *testing.T) {
	most := impl.MaxText - 16
	for _, x := range []struct{ extra, b int }{
		{0, most - 1}, {0, most}, {20, most}, {impl.MaxText - 1, 0}, {impl.MaxText, 0}, {impl.MaxText, 1}, {impl.MaxText, most},
	} {
		wantBox(t, someKey(), someNonce(), someBytes(x.extra), someBytes(x.b))
	}
}

// TestP5BoxIsStreamAndTag: the stream is that from counter 1 on, the tag that by block 0, of the program's own.
func TestP5BoxIsStreamAndTag(t *testing.T) {
	ok := must(t)
	key, nonce, extra := someKey(), someNonce(), someBytes(21)
	for _, n := range boxSizes() {
		sealed, code := impl.StreamXor(key, nonce, 1, someBytes(n))
		if code != impl.OK {
			t.Fatal("StreamXor", code)
		}
		tag := ok(impl.OneTimeTag(ok(impl.StreamBlock(key, nonce, 0))[:32], otherTagged(extra, sealed)))
		box, code := impl.SealBox(key, nonce, extra, someBytes(n))
		wantText(t, fmt.Sprint("SealBox of ", n, " bytes"), string(box), code, string(sealed)+tag)
	}
}

func TestP5BoxEveryBit(t *testing.T) {
	key, nonce := someKey(), someNonce()
	for _, n := range []int{0, 1, 15, 16, 17, 40} {
		for _, extra := range [][]byte{nil, someBytes(1), someBytes(17)} {
			box := string(otherBox(key, nonce, extra, someBytes(n)))
			for bit := range 8 * len(box) {
				wantSealed(t, fmt.Sprint("of ", n, " bytes, bit ", bit), key, nonce, extra, []byte(flipped(box, bit)))
			}
			got, code := impl.OpenBox(key, nonce, extra, []byte(box))
			wantText(t, fmt.Sprint("OpenBox of ", n, " bytes"), string(got), code, string(someBytes(n)))
		}
	}
}

func TestP5BoxOfAnotherKeyNonceOrExtra(t *testing.T) {
	key, nonce, extra := someKey(), someNonce(), string(someBytes(17))
	for _, n := range []int{0, 1, 40} {
		box := otherBox(key, nonce, []byte(extra), someBytes(n))
		for bit := range 256 {
			wantSealed(t, fmt.Sprint("bit ", bit, " of the key"), flipped(key, bit), nonce, []byte(extra), box)
		}
		for bit := range 96 {
			wantSealed(t, fmt.Sprint("bit ", bit, " of the nonce"), key, flipped(nonce, bit), []byte(extra), box)
		}
		for bit := range 8 * len(extra) {
			wantSealed(t, fmt.Sprint("bit ", bit, " of extra"), key, nonce, []byte(flipped(extra, bit)), box)
		}
		wantSealed(t, "without extra", key, nonce, nil, box)
		wantSealed(t, "a byte of extra less", key, nonce, []byte(extra[1:]), box)
		wantSealed(t, "a byte of extra less", key, nonce, []byte(extra[:16]), box)
	}
}

// TestP5BoxLengthsCount: noughts behind extra or behind what is sealed are not those that fill it up.
func TestP5BoxLengthsCount(t *testing.T) {
	key, nonce := someKey(), someNonce()
	for _, n := range []int{0, 1, 5, 15, 16} {
		box := otherBox(key, nonce, someBytes(n), someBytes(n))
		tag, sealed := box[n:], box[:n]
		for by := 1; by <= 16; by++ {
			wantSealed(t, "noughts behind extra", key, nonce, append(someBytes(n), make([]byte, by)...), box)
			wantSealed(t, "noughts behind what is sealed", key, nonce, someBytes(n), slices.Concat(sealed, make([]byte, by), tag))
			wantSealed(t, "noughts behind the tag", key, nonce, someBytes(n), slices.Concat(box, make([]byte, by)))
			wantSealed(t, "noughts ahead", key, nonce, someBytes(n), slices.Concat(make([]byte, by), box))
		}
		for by := 1; by <= n; by++ {
			wantSealed(t, "bytes of the end less", key, nonce, someBytes(n), box[:len(box)-by])
			wantSealed(t, "bytes of the beginning less", key, nonce, someBytes(n), box[by:])
		}
	}
}

// TestP5BoxBytesKeepTheirSide: what moves from extra into what is sealed is another box.
func TestP5BoxBytesKeepTheirSide(t *testing.T) {
	key, nonce := someKey(), someNonce()
	both := someBytes(32)
	box := otherBox(key, nonce, both[:16], otherXor(key, nonce, 1, both[16:]))
	if string(box[:16]) != string(both[16:]) {
		t.Fatal("the bytes sealed are not those wanted")
	}
	tag := box[16:]
	for at := range 33 {
		if at != 16 {
			wantSealed(t, fmt.Sprint(at, " bytes of extra"), key, nonce, both[:at], slices.Concat(both[at:], tag))
		}
	}
}

func TestP5BoxesOfFewBytes(t *testing.T) {
	key, nonce := someKey(), someNonce()
	for _, extra := range [][]byte{nil, someBytes(5)} {
		box := otherBox(key, nonce, extra, nil)
		for n := range 16 {
			got, code := impl.OpenBox(key, nonce, extra, box[:n])
			wantCode(t, fmt.Sprint("OpenBox of ", n, " bytes"), string(got), code, impl.ErrForm)
		}
		got, code := impl.OpenBox(key, nonce, extra, box)
		wantText(t, "OpenBox of 16 bytes", string(got), code, "")
		wantSealed(t, "of 16 bytes", key, nonce, extra, someBytes(16))
		wantSealed(t, "of 16 noughts", key, nonce, extra, make([]byte, 16))
	}
	got, code := impl.OpenBox(key, nonce, nil, nil)
	wantCode(t, "OpenBox of nil", string(got), code, impl.ErrForm)
}
