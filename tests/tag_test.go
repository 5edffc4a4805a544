package tests

import (
	"bytes"
	"fmt"
	"math/big"
	"strings"
	"testing"

	"loop.example/g00254/impl"
)

func tagPrime() *big.Int { return less(power2(130), 5) }

// text16 is a number modulo 2 to the 128 as 16 bytes, the lowest first.
func text16(n *big.Int) string { return text32(new(big.Int).Mod(n, power2(128)))[:16] }

// otherTag has the tag by numbers of any size.
func otherTag(key string, b []byte) string {
	masked := []byte(key[:16])
	for _, i := range []int{3, 7, 11, 15} {
		masked[i] &= 15
	}
	for _, i := range []int{4, 8, 12} {
		masked[i] &= 252
	}
	r, sum := number(string(masked)), new(big.Int)
	for at := 0; at < len(b); at += 16 {
		part := string(b[at:min(at+16, len(b))]) + "\x01"
		sum.Add(sum, number(part))
		sum.Mul(sum, r).Mod(sum, tagPrime())
	}
	return text16(sum.Add(sum, number(key[16:])))
}

func wantTag(t *testing.T, key string, b []byte) {
	t.Helper()
	got, code := impl.OneTimeTag(key, b)
	wantText(t, fmt.Sprintf("OneTimeTag by %x of %d bytes, %.40x", key, len(b), b), got, code, otherTag(key, b))
}

func TestP5TagVectors(t *testing.T) {
	const s = "36e5f6b5c5e06070f0efca96227a863e"
	zero, full := strings.Repeat("00", 16), strings.Repeat("ff", 16)
	one, two := "01"+strings.Repeat("00", 15), "02"+strings.Repeat("00", 15)
	far := "01000000000000000400000000000000"
	over := "e33594d7505e43b900000000000000003394d7505e4379cd01000000000000000000000000000000000000000000000001000000000000000000000000000000"
	// RFC 8439: 2.5.2 and A.3
	for _, x := range []struct{ r, s, text, want string }{
		{"85d6be7857556d337f4452fe42d506a8", "0103808afb0db2fd4abff6af4149f51b", "Cryptographic Forum Research Group", "a8061dc1305136c6c22b8baf0c0127a9"},
		{zero, zero, noughts(64), zero},
		{zero, s, contribution, s},
		{s, zero, contribution, "f3477e7cd95417af89a6b8794c310cf0"},
		{jabberwockyKey[:32], jabberwockyKey[32:], jabberwocky, "4541669a7eaaee61e708dc7cbcc5eb62"},
		{two, zero, ones(16), "03" + zero[2:]},
		{two, full, "\x02" + noughts(15), "03" + zero[2:]},
		{one, zero, ones(16) + "\xf0" + ones(15) + "\x11" + noughts(15), "05" + zero[2:]},
		{one, zero, ones(16) + "\xfb" + strings.Repeat("\xfe", 15) + strings.Repeat("\x01", 16), zero},
		{two, zero, "\xfd" + ones(15), "fa" + full[2:]},
		{far, zero, unhex(t, over), "14000000000000005500000000000000"},
		{far, zero, unhex(t, over[:96]), "13" + zero[2:]},
	} {
		key := unhex(t, x.r+x.s)
		got, code := impl.OneTimeTag(key, []byte(x.text))
		wantText(t, fmt.Sprintf("OneTimeTag by %x of %.20q", key, x.text), got, code, unhex(t, x.want))
		wantTag(t, key, []byte(x.text))
	}
}

func tagKeys() []string {
	return []string{
		noughts(32), ones(32), ones(16) + noughts(16), noughts(16) + ones(16), someKey(),
		"\x01" + noughts(31), "\x02" + noughts(31), "\x01" + noughts(15) + ones(16),
		strings.Repeat("\xfc\xff\xff\x0f", 4) + ones(16),
	}
}

func TestP5TagLengths(t *testing.T) {
	sizes := []int{255, 256, 257, 1000, 4096, impl.MaxText - 1, impl.MaxText}
	for n := range 100 {
		sizes = append(sizes, n)
	}
	for _, key := range tagKeys() {
		for _, n := range sizes {
			for _, b := range [][]byte{someBytes(n), make([]byte, n), bytes.Repeat([]byte{0xff}, n), bytes.Repeat([]byte{1}, n)} {
				wantTag(t, key, b)
			}
		}
	}
}

// TestP5TagOfNothing: nothing is added, so that s alone is told.
func TestP5TagOfNothing(t *testing.T) {
	for _, key := range tagKeys() {
		got, code := impl.OneTimeTag(key, nil)
		wantText(t, fmt.Sprintf("OneTimeTag by %x of nothing", key), got, code, key[16:])
	}
}

// TestP5TagNoughtsCount: a byte 1 stands right behind the bytes, so that noughts behind them are not passed over.
func TestP5TagNoughtsCount(t *testing.T) {
	ok := must(t)
	seen := map[string]int{}
	for n := range 200 {
		tag := ok(impl.OneTimeTag(someKey(), make([]byte, n)))
		if m, found := seen[tag]; found {
			t.Errorf("the tag of %d noughts is that of %d", n, m)
		}
		seen[tag] = n
	}
}

// threeParts are 48 bytes whose numbers, each with a 1 behind, sum up to n.
func threeParts(n *big.Int) []byte {
	rest := new(big.Int).Sub(n, new(big.Int).Lsh(big.NewInt(3), 128))
	most := less(power2(128), 1)
	out := ""
	for range 3 {
		part := rest
		if part.Cmp(most) > 0 {
			part = most
		}
		out += text16(part)
		rest = new(big.Int).Sub(rest, part)
	}
	return []byte(out)
}

// TestP5TagAtThePrime: by r of 1 a tag is the sum of its parts, modulo the prime, and s.
func TestP5TagAtThePrime(t *testing.T) {
	for _, s := range []*big.Int{new(big.Int), big.NewInt(1), big.NewInt(5), less(power2(128), 1), less(power2(128), 5), power2(127), power2(64)} {
		key := "\x01" + noughts(15) + text16(s)
		for by := int64(-20); by <= 20; by++ {
			sum := more(tagPrime(), by)
			if by >= 0 {
				sum = big.NewInt(by)
			}
			b := threeParts(more(tagPrime(), by))
			got, code := impl.OneTimeTag(key, b)
			call := fmt.Sprintf("OneTimeTag of the prime and %d, s %x", by, s)
			wantText(t, call, got, code, text16(sum.Add(sum, s)))
			wantTag(t, key, b)
		}
	}
}

// TestP5TagSumsOverTheTop: what s leads over 2 to the 128 falls off.
func TestP5TagSumsOverTheTop(t *testing.T) {
	for _, low := range []*big.Int{new(big.Int), big.NewInt(1), less(power2(64), 1), power2(64), less(power2(128), 2), less(power2(128), 1)} {
		for _, s := range []*big.Int{new(big.Int), big.NewInt(1), big.NewInt(2), less(power2(64), 1), power2(64), less(power2(128), 1)} {
			key := "\x01" + noughts(15) + text16(s)
			got, code := impl.OneTimeTag(key, []byte(text16(low)))
			sum := new(big.Int).Add(low, s)
			wantText(t, fmt.Sprintf("OneTimeTag of %x, s %x", low, s), got, code, text16(sum))
		}
	}
}

// TestP5TagMaskedBits: of r 22 bits are left out, and no other bit of a key.
func TestP5TagMaskedBits(t *testing.T) {
	ok := must(t)
	b := someBytes(40)
	for _, key := range []string{noughts(32), ones(32), someKey()} {
		left := 0
		for bit := range 256 {
			wantTag(t, flipped(key, bit), b)
			at := bit / 8
			out := at < 16 && at%4 == 3 && bit%8 >= 4 || (at == 4 || at == 8 || at == 12) && bit%8 < 2
			if out {
				left++
			}
			alike := ok(impl.OneTimeTag(flipped(key, bit), b)) == ok(impl.OneTimeTag(key, b))
			if alike != out {
				t.Errorf("bit %d of the key %x counts: %v", bit, key, !alike)
			}
		}
		if left != 22 {
			t.Errorf("%d bits are left out", left)
		}
	}
}

// TestP5TagCarries puts words together that make long carries, in the key and in the text.
func TestP5TagCarries(t *testing.T) {
	words := []string{
		noughts(8), ones(8), "\x01" + noughts(7), "\xfb" + ones(7), "\xfe" + ones(7), noughts(7) + "\x80", ones(7) + "\x7f",
		"\xfc\xff\xff\x0f\xfc\xff\xff\x0f", "\x05" + noughts(7), noughts(4) + "\x04" + noughts(3),
	}
	pick := someBytes(60000)
	next := func() string {
		w := words[int(pick[0])%len(words)]
		pick = pick[1:]
		return w
	}
	for round := 0; len(pick) > 20; round++ {
		key := next() + next() + next() + next()
		text := ""
		for range 2 + round%9 {
			text += next()
		}
		wantTag(t, key, []byte(text[:len(text)-round%8]))
	}
}

func TestP5TagEveryBitOfTheText(t *testing.T) {
	ok := must(t)
	for _, n := range []int{1, 15, 16, 17, 32, 33} {
		text := string(someBytes(n))
		want := ok(impl.OneTimeTag(someKey(), []byte(text)))
		for bit := range 8 * n {
			b := []byte(flipped(text, bit))
			wantTag(t, someKey(), b)
			if ok(impl.OneTimeTag(someKey(), b)) == want {
				t.Errorf("bit %d of %d bytes does not count", bit, n)
			}
		}
	}
}
