package tests

import (
	"crypto/hkdf"
	"crypto/hmac"
	"crypto/sha256"
	"encoding/hex"
	"fmt"
	"strings"
	"testing"

	"loop.example/g00254/impl"
)

// someBytes look like any other; a shorter one is not the beginning of a longer one.
func someBytes(n int) []byte {
	var out []byte
	for i := 0; len(out) < n; i++ {
		h := sha256.Sum256(fmt.Append(nil, n, " bytes, piece ", i))
		out = append(out, h[:]...)
	}
	return out[:n]
}

// blockEdges are lengths around those at which a block more begins.
func blockEdges() []int {
	var out []int
	for _, n := range []int{56, 64, 120, 128, 184, 192, 1024, 4096, impl.MaxText - 8, impl.MaxText - 1} {
		out = append(out, n-1, n, n+1)
	}
	return append(out, 0, 1, 31, 32, 33)
}

func libraryHash(b []byte) string {
	h := sha256.Sum256(b)
	return string(h[:])
}

func libraryHmac(key, b []byte) string {
	h := hmac.New(sha256.New, key)
	h.Write(b)
	return string(h.Sum(nil))
}

func libraryHkdf(t *testing.T, salt, secret, info []byte, n int) (key, drawn string) {
	t.Helper()
	k, err := hkdf.Extract(sha256.New, secret, salt)
	if err != nil {
		t.Fatal(err)
	}
	return string(k), libraryExpand(t, string(k), info, n)
}

func libraryExpand(t *testing.T, key string, info []byte, n int) string {
	t.Helper()
	out, err := hkdf.Expand(sha256.New, []byte(key), string(info), n)
	if err != nil {
		t.Fatal(err)
	}
	return string(out)
}

func TestP4HashVectors(t *testing.T) {
	// FIPS 180-4
	for _, x := range []struct{ text, want string }{
		{"", "e3b0c44298fc1c149afbf4c8996fb92427ae41e4649b934ca495991b7852b855"},
		{"abc", "ba7816bf8f01cfea414140de5dae2223b00361a396177a9cb410ff61f20015ad"},
		{
			"abcdbcdecdefdefgefghfghighijhijkijkljklmklmnlmnomnopnopq",
			"248d6a61d20638b8e5c026930c3e6039a33ce45964ff2167f6ecedd419db06c1",
		},
		{
			"abcdefghbcdefghicdefghijdefghijkefghijklfghijklmghijklmnhijklmnoijklmnopjklmnopqklmnopqrlmnopqrsmnopqrstnopqrstu",
			"cf5b16a778af8380036ce59e7b0492370b249b11e8f07a51afac45037afee9d1",
		},
	} {
		wantText(t, fmt.Sprintf("Hash %q", x.text), impl.Hash([]byte(x.text)), impl.OK, unhex(t, x.want))
	}
	if got := impl.Hash([]byte(strings.Repeat("a", 1000000))); got != "" {
		t.Errorf("Hash of a million bytes: %x", got)
	}
}

func TestP4HashEveryLength(t *testing.T) {
	for n := range 201 {
		for _, b := range [][]byte{
			someBytes(n), []byte(strings.Repeat("\x00", n)), []byte(strings.Repeat("\x80", n)), []byte(strings.Repeat("\xff", n)),
		} {
			wantText(t, fmt.Sprintf("Hash of %d bytes, %.8x", n, b), impl.Hash(b), impl.OK, libraryHash(b))
		}
	}
	for _, n := range blockEdges() {
		wantText(t, fmt.Sprintf("Hash of %d bytes", n), impl.Hash(someBytes(n)), impl.OK, libraryHash(someBytes(n)))
	}
}

// TestP4HashEveryBit: each bit of a text counts, in its last block too.
func TestP4HashEveryBit(t *testing.T) {
	for _, n := range []int{1, 55, 56, 64, 119, 120} {
		text := string(someBytes(n))
		for bit := range 8 * n {
			b := []byte(flipped(text, bit))
			wantText(t, fmt.Sprintf("Hash of %d bytes with bit %d changed", n, bit), impl.Hash(b), impl.OK, libraryHash(b))
			if impl.Hash(b) == impl.Hash([]byte(text)) {
				t.Errorf("Hash of %d bytes: bit %d does not count", n, bit)
			}
		}
	}
}

func TestP4HashNoughtsCount(t *testing.T) {
	seen := map[string]int{}
	for n := range 300 {
		h := impl.Hash(make([]byte, n))
		if m, ok := seen[h]; ok {
			t.Errorf("Hash of %d noughts is that of %d", n, m)
		}
		seen[h] = n
	}
}

func TestP4HmacVectors(t *testing.T) {
	// RFC 4231; the fifth one tells the first 16 bytes only
	for _, x := range []struct{ key, text, want string }{
		{strings.Repeat("\x0b", 20), "Hi There", "b0344c61d8db38535ca8afceaf0bf12b881dc200c9833da726e9376c2e32cff7"},
		{"Jefe", "what do ya want for nothing?", "5bdcc146bf60754e6a042426089575c75a003f089d2739839dec58b964ec3843"},
		{strings.Repeat("\xaa", 20), strings.Repeat("\xdd", 50), "773ea91e36800e46854db8ebd09181a72959098b3ef8c122d9635514ced565fe"},
		{
			unhex(t, "0102030405060708090a0b0c0d0e0f10111213141516171819"), strings.Repeat("\xcd", 50),
			"82558a389a443c0ea4cc819899f2083a85f0faa3e578f8077a2e3ff46729665b",
		},
		{strings.Repeat("\x0c", 20), "Test With Truncation", "a3b6167473100ee06e0c796c2955552b"},
		{
			strings.Repeat("\xaa", 131), "Test Using Larger Than Block-Size Key - Hash Key First",
			"60e431591ee0b67f0d8a26aacbf5b77f8e0bc6213728c5140546040f0ee37f54",
		},
		{
			strings.Repeat("\xaa", 131),
			"This is a test using a larger than block-size key and a larger than block-size data. " +
				"The key needs to be hashed before being used by the HMAC algorithm.",
			"9b09ffa71b942fcb27635fbcd5b0e944bfdc63644f0713938a7f51535c3a35e2",
		},
	} {
		got, code := impl.Hmac([]byte(x.key), []byte(x.text))
		if len(got) != 32 {
			t.Fatalf("Hmac %.20q has %d bytes", x.text, len(got))
		}
		wantText(t, fmt.Sprintf("Hmac %.20q", x.text), got[:len(x.want)/2], code, unhex(t, x.want))
	}
}

func TestP4HmacLengths(t *testing.T) {
	for key := range 200 {
		for _, n := range []int{0, 1, 55, 56, 63, 64, 65, 119, 120, 128} {
			got, code := impl.Hmac(someBytes(key), someBytes(n))
			wantText(t, fmt.Sprint("Hmac of ", key, ", ", n, " bytes"), got, code, libraryHmac(someBytes(key), someBytes(n)))
		}
	}
	for _, key := range blockEdges() {
		for _, n := range []int{0, 55, impl.MaxText - 64, impl.MaxText} {
			got, code := impl.Hmac(someBytes(key), someBytes(n))
			wantText(t, fmt.Sprint("Hmac of ", key, ", ", n, " bytes"), got, code, libraryHmac(someBytes(key), someBytes(n)))
		}
	}
}

func TestP4HmacKeysOfMoreThanABlock(t *testing.T) {
	ok := must(t)
	text := []byte("text")
	for _, n := range []int{0, 1, 31, 32, 33, 63, 64, 65, 66, 127, 128, 129, 1000, impl.MaxText} {
		key := someBytes(n)
		whole, hashed := ok(impl.Hmac(key, text)), ok(impl.Hmac([]byte(impl.Hash(key)), text))
		if (whole == hashed) != (n > 64) {
			t.Errorf("a key of %d bytes is its hash: %v", n, whole == hashed)
		}
	}
	for n := range 64 {
		key := someBytes(n)
		filled := append(key[:n:n], make([]byte, 64-n)...)
		if ok(impl.Hmac(key, text)) != ok(impl.Hmac(filled, text)) {
			t.Errorf("a key of %d bytes is not filled with noughts", n)
		}
	}
}

// numbered are n bytes that rise by one from the first.
func numbered(first byte, n int) []byte {
	out := make([]byte, n)
	for i := range out {
		out[i] = first + byte(i)
	}
	return out
}

func TestP4HkdfVectors(t *testing.T) {
	// RFC 5869, A.1 to A.3
	for _, x := range []struct {
		salt, secret, info []byte
		n                  int
		key, want          string
	}{
		{
			numbered(0x00, 13), []byte(strings.Repeat("\x0b", 22)), numbered(0xf0, 10), 42,
			"077709362c2e32df0ddc3f0dc47bba6390b6c73bb50f9c3122ec844ad7c2b3e5",
			"3cb25f25faacd57a90434f64d0362f2a2d2d0a90cf1a5a4c5db02d56ecc4c5bf34007208d5b887185865",
		},
		{
			numbered(0x60, 80), numbered(0x00, 80), numbered(0xb0, 80), 82,
			"06a6b88c5853361a06104c9ceb35b45cef760014904671014a193f40c15fc244",
			"b11e398dc80327a1c8e7f78c596a49344f012eda2d4efad8a050cc4c19afa97c" +
				"59045a99cac7827271cb41c65e590e09da3275600c2f09b8367793a9aca3db71" +
				"cc30c58179ec3e87c14c01d5c1f3434f1d87",
		},
		{
			nil, []byte(strings.Repeat("\x0b", 22)), nil, 42,
			"19ef24a32c717b167f33a91d6f648bdf96596776afdb6377ac434c1c293ccb04",
			"8da4e775a563c18f715f802a063c5a31b8a11f5c5ee1879ec3454e5f3c738d2d9d201395faa4b61a96c8",
		},
	} {
		key, code := impl.HkdfExtract(x.salt, x.secret)
		wantText(t, fmt.Sprintf("HkdfExtract %x", x.salt), key, code, unhex(t, x.key))
		got, code := impl.HkdfExpand(key, x.info, x.n)
		wantText(t, fmt.Sprintf("HkdfExpand %x", x.info), got, code, unhex(t, x.want))
		got, code = impl.Hkdf(x.salt, x.secret, x.info, x.n)
		wantText(t, fmt.Sprintf("Hkdf %x", x.salt), got, code, unhex(t, x.want))
	}
}

func TestP4HkdfLengths(t *testing.T) {
	for _, salt := range []int{0, 13, 63, 64, 65, 200} {
		for _, secret := range []int{0, 32, 56, 64, 65} {
			for _, info := range []int{0, 1, 22, 23, 24, 54, 55, 56, 120} {
				for _, n := range []int{1, 32, 33, 65, 100} {
					call := fmt.Sprint("of ", salt, ", ", secret, ", ", info, " bytes, ", n)
					key, want := libraryHkdf(t, someBytes(salt), someBytes(secret), someBytes(info), n)
					got, code := impl.HkdfExtract(someBytes(salt), someBytes(secret))
					wantText(t, "HkdfExtract "+call, got, code, key)
					got, code = impl.HkdfExpand(key, someBytes(info), n)
					wantText(t, "HkdfExpand "+call, got, code, want)
					got, code = impl.Hkdf(someBytes(salt), someBytes(secret), someBytes(info), n)
					wantText(t, "Hkdf "+call, got, code, want)
				}
			}
		}
	}
}

// TestP4ExpandKeysOfAnyLength: the key of a draw is a text as any other; of more than 64 bytes it is its hash.
func TestP4ExpandKeysOfAnyLength(t *testing.T) {
	for _, n := range []int{0, 1, 31, 32, 33, 63, 64, 65, 128, 1000, impl.MaxText} {
		key := string(someBytes(n))
		got, code := impl.HkdfExpand(key, []byte("info"), 100)
		wantText(t, fmt.Sprint("HkdfExpand by a key of ", n, " bytes"), got, code, libraryExpand(t, key, []byte("info"), 100))
	}
}

func TestP4DrawnIsTheBeginningOfMore(t *testing.T) {
	ok := must(t)
	for _, x := range []struct{ salt, secret, info []byte }{
		{nil, nil, nil}, {[]byte("salt"), []byte("secret"), []byte("info")}, {someBytes(65), someBytes(200), someBytes(64)},
	} {
		key := ok(impl.HkdfExtract(x.salt, x.secret))
		most := ok(impl.HkdfExpand(key, x.info, 8160))
		lengths := []int{8127, 8128, 8129, 8158, 8159, 8160}
		for n := range 300 {
			lengths = append(lengths, n)
		}
		for _, n := range lengths {
			got, code := impl.HkdfExpand(key, x.info, n)
			wantText(t, fmt.Sprint("HkdfExpand, ", n), got, code, most[:n])
			got, code = impl.Hkdf(x.salt, x.secret, x.info, n)
			wantText(t, fmt.Sprint("Hkdf, ", n), got, code, most[:n])
		}
	}
}

// TestP4BlocksOfADraw: each block is Hmac of the block ahead, info and its number; so up to the number 255.
func TestP4BlocksOfADraw(t *testing.T) {
	key, info := string(someBytes(32)), []byte("info")
	most, code := impl.HkdfExpand(key, info, 8160)
	wantText(t, "HkdfExpand, 8160", most, code, libraryExpand(t, key, info, 8160))
	ahead := ""
	for number := 1; number <= 255; number++ {
		ahead = libraryHmac([]byte(key), fmt.Append(nil, ahead, "info", string([]byte{byte(number)})))
		if got := most[(number-1)*32 : number*32]; got != ahead {
			t.Errorf("block %d is %x, want %x", number, got, ahead)
		}
	}
}

func TestP4DrawsHangOnAllOfTheirArguments(t *testing.T) {
	ok := must(t)
	seen := map[string]string{}
	for _, salt := range []string{"", "a", "b"} {
		for _, secret := range []string{"", "a", "b"} {
			for _, info := range []string{"", "a", "b", "a\x01"} {
				got := ok(impl.Hkdf([]byte(salt), []byte(secret), []byte(info), 32))
				call := fmt.Sprintf("%q %q %q", salt, secret, info)
				if other, found := seen[got]; found {
					t.Error("alike:", call, other)
				}
				seen[got] = call
			}
		}
	}
}

func TestP4HexOfEveryByte(t *testing.T) {
	for i := range 256 {
		c := string([]byte{byte(i)})
		got, code := impl.HexText(c)
		wantText(t, fmt.Sprint("HexText of the byte ", i), got, code, fmt.Sprintf("%02x", i))
	}
	all := string(numbered(0, 256))
	for _, text := range []string{"", "a", all, all + all, "é", "\x00\x00", "\n", strings.Repeat("\xff", impl.MaxText)} {
		got, code := impl.HexText(text)
		wantText(t, fmt.Sprintf("HexText of %d bytes, %.8x", len(text), text), got, code, hex.EncodeToString([]byte(text)))
	}
}
