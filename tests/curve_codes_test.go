package tests

import (
	"fmt"
	"math/big"
	"slices"
	"strings"
	"testing"

	"loop.example/g00254/impl"
)

func curveOfOne() []oneText {
	return []oneText{{"ClampScalar", impl.ClampScalar}, {"PublicKey", impl.PublicKey}}
}

func curveOfTwo() []twoTexts {
	return []twoTexts{{"ScalarMult", impl.ScalarMult}, {"SharedSecret", impl.SharedSecret}}
}

// freeBits are the bits of a scalar that clamping sets; no other bit of it may be changed.
func freeBits() []int { return []int{0, 1, 2, 254, 255} }

func flipped(k string, bit int) string {
	b := []byte(k)
	b[bit/8] ^= 1 << (bit % 8)
	return string(b)
}

func TestP3ClampNamedScalars(t *testing.T) {
	ones := strings.Repeat("\xff", 30)
	noughts := strings.Repeat("\x00", 30)
	for _, x := range []struct{ k, want string }{
		{"\x00" + noughts + "\x00", "\x00" + noughts + "\x40"},
		{"\xff" + ones + "\xff", "\xf8" + ones + "\x7f"},
		{"\x07" + noughts + "\x80", "\x00" + noughts + "\x40"},
		{"\x08" + noughts + "\x3f", "\x08" + noughts + "\x7f"},
		{"\xf8" + ones + "\x7f", "\xf8" + ones + "\x7f"},
		{"\x0f" + ones + "\xbf", "\x08" + ones + "\x7f"},
		{
			"\xa5\x46\xe3\x6b\xf0\x52\x7c\x9d\x3b\x16\x15\x4b\x82\x46\x5e\xdd\x62\x14\x4c\x0a\xc1\xfc\x5a\x18\x50\x6a\x22\x44\xba\x44\x9a\xc4",
			"\xa0\x46\xe3\x6b\xf0\x52\x7c\x9d\x3b\x16\x15\x4b\x82\x46\x5e\xdd\x62\x14\x4c\x0a\xc1\xfc\x5a\x18\x50\x6a\x22\x44\xba\x44\x9a\x44",
		},
	} {
		got, code := impl.ClampScalar(x.k)
		wantText(t, fmt.Sprintf("ClampScalar %x", x.k), got, code, x.want)
	}
}

func TestP3ClampBits(t *testing.T) {
	for _, k := range scalars(40) {
		got, code := impl.ClampScalar(k)
		wantText(t, fmt.Sprintf("ClampScalar %x", k), got, code, text32(clampedNumber(k)))
		again, code := impl.ClampScalar(got)
		wantText(t, fmt.Sprintf("ClampScalar twice %x", k), again, code, got)
		for bit := range 256 {
			want := got
			if !slices.Contains(freeBits(), bit) {
				want = flipped(got, bit)
			}
			other, code := impl.ClampScalar(flipped(k, bit))
			wantText(t, fmt.Sprintf("ClampScalar %x with bit %d changed", k, bit), other, code, want)
		}
	}
}

func TestP3ClampedScalarsAnswerAlike(t *testing.T) {
	ok := must(t)
	public := ok(impl.PublicKey(text32(someNumbers(1)[0])))
	for _, k := range scalars(20) {
		want := ok(impl.ClampScalar(k))
		others := []string{k}
		for _, bit := range freeBits() {
			others = append(others, flipped(k, bit))
		}
		others = append(others, flipped(flipped(flipped(flipped(flipped(k, 0), 1), 2), 254), 255))
		for _, other := range others {
			got, code := impl.PublicKey(other)
			wantText(t, fmt.Sprintf("PublicKey %x", other), got, code, ok(impl.PublicKey(want)))
			for _, f := range curveOfTwo() {
				got, code = f.call(other, public)
				wantText(t, fmt.Sprintf("%s %x", f.name, other), got, code, ok(f.call(want, public)))
			}
		}
	}
}

func TestP3AllOtherBitsCount(t *testing.T) {
	ok := must(t)
	for _, k := range scalars(1) {
		public := ok(impl.PublicKey(k))
		for bit := 3; bit < 254; bit++ {
			if ok(impl.PublicKey(flipped(k, bit))) == public {
				t.Errorf("PublicKey %x: bit %d does not count", k, bit)
			}
		}
	}
}

func TestP1CurveOfOneWrong(t *testing.T) {
	for _, f := range curveOfOne() {
		for _, a := range wrongLengths() {
			got, code := f.call(a)
			wantCode(t, fmt.Sprint(f.name, " of ", len(a), " bytes"), got, code, impl.ErrBad)
		}
		for _, a := range longTexts() {
			got, code := f.call(a)
			wantCode(t, fmt.Sprint(f.name, " of ", len(a), " bytes"), got, code, impl.ErrLong)
		}
		// a scalar is 32 bytes of any kind: it need not be a number of the field
		for _, a := range wrongNumbers() {
			if got, code := f.call(a); code != impl.OK || len(got) != 32 {
				t.Errorf("%s %x: got %x, code %d", f.name, a, got, code)
			}
		}
	}
}

func TestP1CurveOfTwoWrong(t *testing.T) {
	// nought is as good a point as any to try the order of codes at: ErrZero comes behind ErrBad
	for _, right := range []string{text32(big.NewInt(9)), strings.Repeat("\x00", 32)} {
		for _, f := range curveOfTwo() {
			for _, a := range wrongLengths() {
				got, code := f.call(a, right)
				wantCode(t, fmt.Sprint(f.name, ", scalar of ", len(a), " bytes"), got, code, impl.ErrBad)
				got, code = f.call(right, a)
				wantCode(t, fmt.Sprint(f.name, ", point of ", len(a), " bytes"), got, code, impl.ErrBad)
				got, code = f.call(a, a)
				wantCode(t, fmt.Sprint(f.name, ", both of ", len(a), " bytes"), got, code, impl.ErrBad)
			}
			wantLongFirst(t, f, append(wrongLengths(), right))
		}
	}
}

func TestP1DoublePointWrong(t *testing.T) {
	for _, u := range slices.Concat(wrongNumbers(), wrongLengths()) {
		got, code := impl.DoublePoint(u)
		wantCode(t, fmt.Sprintf("DoublePoint of %d bytes, %.40x", len(u), u), got, code, impl.ErrBad)
	}
	for n := range int64(19) {
		got, code := impl.DoublePoint(text32(more(prime(), n)))
		wantCode(t, fmt.Sprint("DoublePoint of the prime and ", n), got, code, impl.ErrBad)
	}
	for _, u := range longTexts() {
		got, code := impl.DoublePoint(u)
		wantCode(t, fmt.Sprint("DoublePoint of ", len(u), " bytes"), got, code, impl.ErrLong)
	}
}

// curveAnswers tells what all functions of the chapter answer, in one order or the other.
func curveAnswers(backwards bool) map[string]string {
	texts := slices.Concat(wrongNumbers(), wrongLengths(), longTexts())
	for _, n := range fewNumbers() {
		texts = append(texts, text32(n))
	}
	if backwards {
		slices.Reverse(texts)
	}
	out := map[string]string{}
	for _, a := range texts {
		a = strings.Clone(a)
		for _, f := range append(curveOfOne(), oneText{"DoublePoint", impl.DoublePoint}) {
			out[fmt.Sprintf("%s %x", f.name, a)] = fmt.Sprintln(f.call(a))
		}
		for _, b := range []string{text32(big.NewInt(9)), text32(prime()), ""} {
			for _, f := range curveOfTwo() {
				out[fmt.Sprintf("%s %x %x", f.name, a, b)] = fmt.Sprintln(f.call(a, b))
				out[fmt.Sprintf("%s %x %x", f.name, b, a)] = fmt.Sprintln(f.call(b, a))
			}
		}
	}
	return out
}

func TestP1CurveAlikeArgumentsAlikeAnswers(t *testing.T) { wantAlike(t, curveAnswers) }

func TestP1CurveCallsBesideEachOther(t *testing.T) { wantAlikeBeside(t, curveAnswers) }

func TestP1CurveArgumentsStay(t *testing.T) {
	one := append(curveOfOne(), oneText{"DoublePoint", impl.DoublePoint})
	wantArgumentsStay(t, one, curveOfTwo(), text32(less(prime(), 1)), strings.Repeat("\xff", 32))
}
