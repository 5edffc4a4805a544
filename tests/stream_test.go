package tests

import (
	"bytes"
	"encoding/binary"
	"fmt"
	"math"
	"math/bits"
	"strings"
	"testing"

	"loop.example/g00254/impl"
)

// The texts of RFC 8439 and its appendix.
const (
	sunscreen = "Ladies and Gentlemen of the class of '99: If I could offer you only one tip for the future, sunscreen would be it."

	contribution = "Any submission to the IETF intended by the Contributor for publication as all or part of an IETF " +
		"Internet-Draft or RFC and any statement made within the context of an IETF activity is considered an " +
		"\"IETF Contribution\". Such statements include oral statements in IETF sessions, as well as written and " +
		"electronic communications made at any time or place, which are addressed to"

	jabberwocky = "'Twas brillig, and the slithy toves\nDid gyre and gimble in the wabe:\n" +
		"All mimsy were the borogoves,\nAnd the mome raths outgrabe."

	jabberwockyKey = "1c9240a5eb55d38af333888604f6b5f0473917c1402b80099dca5cbc207075c0"

	// lastFirst is the last counter from which StreamXor goes on.
	lastFirst   = 4294966271
	lastCounter = 4294967295
)

func noughts(n int) string { return strings.Repeat("\x00", n) }

func ones(n int) string { return strings.Repeat("\xff", n) }

func someKey() string { return string(someBytes(32)) }

func someNonce() string { return string(someBytes(12)) }

// otherQuarter has the quarter round in words of 64 bits, turned by hand.
func otherQuarter(x [4]uint64) [4]uint64 {
	const mask = 1<<32 - 1
	for _, step := range []struct{ to, from, turned, by int }{{0, 1, 3, 16}, {2, 3, 1, 12}, {0, 1, 3, 8}, {2, 3, 1, 7}} {
		x[step.to] = (x[step.to] + x[step.from]) & mask
		y := x[step.turned] ^ x[step.to]
		x[step.turned] = (y<<step.by | y>>(32-step.by)) & mask
	}
	return x
}

// otherBlock has a block another way: in rows, of which all four columns are taken at a time; for the diagonals the rows
// are turned and turned back.
func otherBlock(key, nonce string, counter uint32) string {
	type row [4]uint32
	turn := func(r row, by int) row { return row{r[by%4], r[(by+1)%4], r[(by+2)%4], r[(by+3)%4]} }
	start := "expand 32-byte k" + key + string(binary.LittleEndian.AppendUint32(nil, counter)) + nonce
	var first [4]row
	for i := range 16 {
		first[i/4][i%4] = binary.LittleEndian.Uint32([]byte(start[4*i : 4*i+4]))
	}
	rows := first
	step := func(to, from, turned, by int) {
		for i := range 4 {
			rows[to][i] += rows[from][i]
			rows[turned][i] = bits.RotateLeft32(rows[turned][i]^rows[to][i], by)
		}
	}
	for round := range 20 {
		step(0, 1, 3, 16)
		step(2, 3, 1, 12)
		step(0, 1, 3, 8)
		step(2, 3, 1, 7)
		for i := range 4 {
			rows[i] = turn(rows[i], []int{i, 4 - i}[round%2])
		}
	}
	var out []byte
	for i := range 16 {
		out = binary.LittleEndian.AppendUint32(out, rows[i/4][i%4]+first[i/4][i%4])
	}
	return string(out)
}

func otherStream(key, nonce string, counter, n int) string {
	var out strings.Builder
	for out.Len() < n {
		out.WriteString(otherBlock(key, nonce, uint32(counter)))
		counter++
	}
	return out.String()[:n]
}

func otherXor(key, nonce string, counter int, b []byte) []byte {
	out := make([]byte, len(b))
	for i, c := range []byte(otherStream(key, nonce, counter, len(b))) {
		out[i] = c ^ b[i]
	}
	return out
}

func quarter(x [4]int) [4]int {
	a, b, c, d := impl.QuarterRound(x[0], x[1], x[2], x[3])
	return [4]int{a, b, c, d}
}

func TestP5QuarterRoundVectors(t *testing.T) {
	// RFC 8439, 2.1.1 and 2.2.1
	for _, x := range []struct{ words, want [4]int }{
		{[4]int{0x11111111, 0x01020304, 0x9b8d6f43, 0x01234567}, [4]int{0xea2a92f4, 0xcb1cf8ce, 0x4581472e, 0x5881c4bb}},
		{[4]int{0x516461b1, 0x2a5f714c, 0x53372767, 0x3d631689}, [4]int{0xbdb886dc, 0xcfacafd2, 0xe46bea80, 0xccc07c79}},
		{[4]int{}, [4]int{}},
	} {
		if got := quarter(x.words); got != x.want {
			t.Errorf("QuarterRound %x: got %x, want %x", x.words, got, x.want)
		}
	}
}

// TestP5QuarterRoundLowestBits: of numbers below nought and above 32 bits the lowest 32 bits count.
func TestP5QuarterRoundLowestBits(t *testing.T) {
	numbers := []int{
		0, 1, 0x7fffffff, 0x80000000, 0xffffffff, 1 << 32, 1<<32 + 1, 0x9b8d6f43, 0x1234567_9b8d6f43,
		-1, -2, -0x80000000, -0xffffffff, -1 << 32, -1<<32 - 1, math.MinInt, math.MinInt + 1, math.MaxInt,
	}
	for i := range len(numbers) * len(numbers) * len(numbers) * len(numbers) {
		var x, low [4]int
		var words [4]uint64
		for j := range x {
			x[j] = numbers[i%len(numbers)]
			i /= len(numbers)
			low[j] = x[j] & 0xffffffff
			words[j] = uint64(low[j])
		}
		got := quarter(x)
		for j, want := range otherQuarter(words) {
			if got[j] != int(want) {
				t.Fatalf("QuarterRound %x: got %x at %d, want %x", x, got[j], j, want)
			}
		}
		if got != quarter(low) {
			t.Fatalf("QuarterRound %x: got %x, but %x of the lowest bits", x, got, quarter(low))
		}
	}
}

func TestP5QuarterRoundEveryBit(t *testing.T) {
	x := [4]int{0x11111111, 0x01020304, 0x9b8d6f43, 0x01234567}
	for i := range x {
		for bit := range 64 {
			changed := x
			changed[i] ^= 1 << bit
			if (quarter(changed) != quarter(x)) != (bit < 32) {
				t.Errorf("bit %d of number %d: counts %v", bit, i, quarter(changed) != quarter(x))
			}
			for _, got := range quarter(changed) {
				if got < 0 || got > 0xffffffff {
					t.Errorf("bit %d of number %d: %x has more than 32 bits", bit, i, got)
				}
			}
		}
	}
}

func TestP5BlockVectors(t *testing.T) {
	one, two := noughts(31)+"\x01", noughts(11)+"\x02"
	jabber := unhex(t, jabberwockyKey)
	// RFC 8439: 2.3.2, A.1; of 2.6.2 and A.4 the first 32 bytes
	for _, x := range []struct {
		key, nonce string
		counter    int
		want       string
	}{
		{
			string(numbered(0, 32)), unhex(t, "000000090000004a00000000"), 1,
			"10f1e7e4d13b5915500fdd1fa32071c4c7d1f4c733c068030422aa9ac3d46c4e" +
				"d2826446079faa0914c2d705d98b02a2b5129cd1de164eb9cbd083e8a2503c4e",
		},
		{
			noughts(32), noughts(12), 0,
			"76b8e0ada0f13d90405d6ae55386bd28bdd219b8a08ded1aa836efcc8b770dc7" +
				"da41597c5157488d7724e03fb8d84a376a43b8f41518a11cc387b669b2ee6586",
		},
		{
			noughts(32), noughts(12), 1,
			"9f07e7be5551387a98ba977c732d080dcb0f29a048e3656912c6533e32ee7aed" +
				"29b721769ce64e43d57133b074d839d531ed1f28510afb45ace10a1f4b794d6f",
		},
		{
			one, noughts(12), 1,
			"3aeb5224ecf849929b9d828db1ced4dd832025e8018b8160b82284f3c949aa5a" +
				"8eca00bbb4a73bdad192b5c42f73f2fd4e273644c8b36125a64addeb006c13a0",
		},
		{
			"\x00\xff" + noughts(30), noughts(12), 2,
			"72d54dfbf12ec44b362692df94137f328fea8da73990265ec1bbbea1ae9af0ca" +
				"13b25aa26cb4a648cb9b9d1be65b2c0924a66c54d545ec1b7374f4872e99f096",
		},
		{
			noughts(32), two, 0,
			"c2c64d378cd536374ae204b9ef933fcd1a8b2288b3dfa49672ab765b54ee27c7" +
				"8a970e0e955c14f3a88e741b97c286f75f8fc299e8148362fa198a39531bed6d",
		},
		{
			string(numbered(0x80, 32)), unhex(t, "000000000001020304050607"), 0,
			"8ad5a08b905f81cc815040274ab29471a833b637e3fd0da508dbb8e2fdd1a646",
		},
		{one, two, 0, "ecfa254f845f647473d3cb140da9e87606cb33066c447b87bc2666dde3fbb739"},
		{jabber, two, 0, "965e3bc6f9ec7ed9560808f4d229f94b137ff275ca9b3fcbdd59deaad23310ae"},
	} {
		got, code := impl.StreamBlock(x.key, x.nonce, x.counter)
		if len(got) != 64 {
			t.Fatalf("StreamBlock %x has %d bytes", x.key, len(got))
		}
		wantText(t, fmt.Sprintf("StreamBlock %x", x.key), got[:len(x.want)/2], code, unhex(t, x.want))
	}
}

func rightCounters() []int {
	return []int{0, 1, 2, 255, 256, 65535, 65536, 1<<24 - 1, 1 << 24, 1<<31 - 1, 1 << 31, lastFirst, lastFirst + 1, lastCounter - 1, lastCounter}
}

func TestP5BlocksAnotherWay(t *testing.T) {
	for _, key := range []string{noughts(32), ones(32), someKey(), string(numbered(1, 32))} {
		for _, nonce := range []string{noughts(12), ones(12), someNonce(), string(numbered(200, 12))} {
			for _, counter := range rightCounters() {
				got, code := impl.StreamBlock(key, nonce, counter)
				call := fmt.Sprintf("StreamBlock %x, %x, %d", key, nonce, counter)
				wantText(t, call, got, code, otherBlock(key, nonce, uint32(counter)))
			}
		}
	}
}

// TestP5BlockEveryBit: each bit of the key, the nonce and the counter counts, in its own place.
func TestP5BlockEveryBit(t *testing.T) {
	ok := must(t)
	key, nonce := someKey(), someNonce()
	seen := map[string]string{ok(impl.StreamBlock(key, nonce, 0)): "no bit"}
	see := func(what, key, nonce string, counter int) {
		got, code := impl.StreamBlock(key, nonce, counter)
		wantText(t, "StreamBlock with "+what, got, code, otherBlock(key, nonce, uint32(counter)))
		if other, found := seen[got]; found {
			t.Errorf("StreamBlock with %s is as with %s", what, other)
		}
		seen[got] = what
	}
	for bit := range 256 {
		see(fmt.Sprint("bit ", bit, " of the key"), flipped(key, bit), nonce, 0)
	}
	for bit := range 96 {
		see(fmt.Sprint("bit ", bit, " of the nonce"), key, flipped(nonce, bit), 0)
	}
	for bit := range 32 {
		see(fmt.Sprint("bit ", bit, " of the counter"), key, nonce, 1<<bit)
	}
}

func TestP5XorVectors(t *testing.T) {
	one, two := noughts(31)+"\x01", noughts(11)+"\x02"
	// RFC 8439: 2.4.2 and A.2
	for _, x := range []struct {
		key, nonce string
		counter    int
		text, want string
	}{
		{
			string(numbered(0, 32)), unhex(t, "000000000000004a00000000"), 1, sunscreen,
			"6e2e359a2568f98041ba0728dd0d6981e97e7aec1d4360c20a27afccfd9fae0bf91b65c5524733ab8f593dabcd62b357" +
				"1639d624e65152ab8f530c359f0861d807ca0dbf500d6a6156a38e088a22b65e52bc514d16ccf806818ce91ab7793736" +
				"5af90bbf74a35be6b40b8eedf2785e42874d",
		},
		{
			noughts(32), noughts(12), 0, noughts(64),
			"76b8e0ada0f13d90405d6ae55386bd28bdd219b8a08ded1aa836efcc8b770dc7" +
				"da41597c5157488d7724e03fb8d84a376a43b8f41518a11cc387b669b2ee6586",
		},
		{
			one, two, 1, contribution,
			"a3fbf07df3fa2fde4f376ca23e82737041605d9f4f4f57bd8cff2c1d4b7955ec2a97948bd3722915c8f3d337f7d37005" +
				"0e9e96d647b7c39f56e031ca5eb6250d4042e02785ececfa4b4bb5e8ead0440e20b6e8db09d881a7c6132f420e527950" +
				"42bdfa7773d8a9051447b3291ce1411c680465552aa6c405b7764d5e87bea85ad00f8449ed8f72d0d662ab052691ca66" +
				"424bc86d2df80ea41f43abf937d3259dc4b2d0dfb48a6c9139ddd7f76966e928e635553ba76c5c879d7b35d49eb2e62b" +
				"0871cdac638939e25e8a1e0ef9d5280fa8ca328b351c3c765989cbcf3daa8b6ccc3aaf9f3979c92b3720fc88dc95ed84" +
				"a1be059c6499b9fda236e7e818b04b0bc39c1e876b193bfe5569753f88128cc08aaa9b63d1a16f80ef2554d7189c411f" +
				"5869ca52c5b83fa36ff216b9c1d30062bebcfd2dc5bce0911934fda79a86f6e698ced759c3ff9b6477338f3da4f9cd85" +
				"14ea9982ccafb341b2384dd902f3d1ab7ac61dd29c6f21ba5b862f3730e37cfdc4fd806c22f221",
		},
		{
			unhex(t, jabberwockyKey), two, 42, jabberwocky,
			"62e6347f95ed87a45ffae7426f27a1df5fb69110044c0d73118effa95b01e5cf166d3df2d721caf9b21e5fb14c616871" +
				"fd84c54f9d65b283196c7fe4f60553ebf39c6402c42234e32a356b3e764312a61a5532055716ead6962568f87d3f3f77" +
				"04c6a8d1bcd1bf4d50d6154b6da731b187b58dfd728afa36757a797ac188d1",
		},
	} {
		got, code := impl.StreamXor(x.key, x.nonce, x.counter, []byte(x.text))
		wantText(t, fmt.Sprintf("StreamXor %.20q", x.text), string(got), code, unhex(t, x.want))
		back, code := impl.StreamXor(x.key, x.nonce, x.counter, got)
		wantText(t, fmt.Sprintf("StreamXor %.20q and back", x.text), string(back), code, x.text)
	}
}

func streamSizes() []int {
	return []int{0, 1, 2, 15, 16, 17, 31, 32, 33, 62, 63, 64, 65, 66, 127, 128, 129, 191, 192, 193, 1000, 65472, 65535, 65536}
}

func TestP5XorPutOnAndTakenOff(t *testing.T) {
	key, nonce := someKey(), someNonce()
	for _, n := range streamSizes() {
		for _, counter := range []int{0, 1, 42, 65535, 1<<31 - 1, lastFirst - 1, lastFirst} {
			b := someBytes(n)
			call := fmt.Sprint("StreamXor of ", n, " bytes from ", counter)
			got, code := impl.StreamXor(key, nonce, counter, b)
			wantText(t, call, string(got), code, string(otherXor(key, nonce, counter, b)))
			back, code := impl.StreamXor(key, nonce, counter, got)
			wantText(t, call+", taken off", string(back), code, string(b))
		}
	}
}

// TestP5XorOfALaterCounter: a stream from a later counter on is the same one, later; each piece of it is a block.
func TestP5XorOfALaterCounter(t *testing.T) {
	key, nonce := someKey(), someNonce()
	for _, x := range []struct{ counter, size int }{{0, 1000}, {1, 64}, {42, 129}, {1<<31 - 3, 777}, {lastFirst - 20, 1300}, {lastFirst - 1023, 65536}} {
		b := someBytes(x.size)
		whole, code := impl.StreamXor(key, nonce, x.counter, b)
		if code != impl.OK || len(whole) != x.size {
			t.Fatalf("StreamXor of %d bytes from %d: %d bytes, code %d", x.size, x.counter, len(whole), code)
		}
		for at := 0; at < x.size; at += 64 {
			counter := x.counter + at/64
			got, code := impl.StreamXor(key, nonce, counter, b[at:])
			wantText(t, fmt.Sprint("StreamXor from ", counter), string(got), code, string(whole[at:]))
			block, code := impl.StreamBlock(key, nonce, counter)
			for i, c := range whole[at:min(at+64, x.size)] {
				if code != impl.OK || c != b[at+i]^block[i] {
					t.Fatalf("byte %d of StreamXor from %d is not of block %d", at+i, x.counter, counter)
				}
			}
		}
	}
}

// TestP5XorAtTheLastCounter: even the longest text ends ahead of the last block, so that no counter comes again.
func TestP5XorAtTheLastCounter(t *testing.T) {
	ok := must(t)
	key, nonce := someKey(), someNonce()
	got, code := impl.StreamXor(key, nonce, lastFirst, make([]byte, impl.MaxText))
	if code != impl.OK || len(got) != impl.MaxText {
		t.Fatalf("StreamXor: %d bytes, code %d", len(got), code)
	}
	wantText(t, "the last block", string(got[impl.MaxText-64:]), code, ok(impl.StreamBlock(key, nonce, lastCounter-1)))
}

func TestP5XorOfNoughtsIsTheStream(t *testing.T) {
	key, nonce := someKey(), someNonce()
	stream, code := impl.StreamXor(key, nonce, 7, make([]byte, 200))
	wantText(t, "StreamXor of noughts", string(stream), code, otherStream(key, nonce, 7, 200))
	for n := range 201 {
		shorter, code := impl.StreamXor(key, nonce, 7, make([]byte, n))
		wantText(t, fmt.Sprint("StreamXor of ", n, " noughts"), string(shorter), code, string(stream[:n]))
		inverse, code := impl.StreamXor(key, nonce, 7, bytes.Repeat([]byte{0xff}, n))
		for i := range inverse {
			if code != impl.OK || inverse[i] != ^stream[i] {
				t.Fatalf("StreamXor of %d bytes 255: byte %d is %x, want %x", n, i, inverse[i], ^stream[i])
			}
		}
	}
}
