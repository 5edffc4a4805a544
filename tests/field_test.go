package tests

import (
	"fmt"
	"math/big"
	"slices"
	"strings"
	"testing"

	"loop.example/g00254/impl"
)

func modulo(n *big.Int) *big.Int { return new(big.Int).Mod(n, prime()) }

func must(t *testing.T) func(string, int) string {
	return func(x string, code int) string {
		t.Helper()
		if code != impl.OK {
			t.Fatal("code", code)
		}
		return x
	}
}

func TestP2ReadNearThePrime(t *testing.T) {
	var list []*big.Int
	for n := int64(-40); n < 19; n++ {
		list = append(list, more(prime(), n))
	}
	list = append(list, fieldNumbers()...)
	for _, n := range someNumbers(40) {
		list = append(list, n.Mod(n, power2(255)))
	}
	for _, n := range list {
		want := text32(modulo(n))
		got, code := impl.FieldRead(text32(n))
		wantText(t, fmt.Sprint("FieldRead ", n), got, code, want)
		got, code = impl.FieldRead(text32(new(big.Int).Add(n, power2(255))))
		wantText(t, fmt.Sprint("FieldRead with the highest bit ", n), got, code, want)
		if !impl.FieldOK(got) {
			t.Error("FieldRead answers what is not FieldOK,", n)
		}
	}
}

func TestP2ReadNamedNumbers(t *testing.T) {
	nought, one := strings.Repeat("\x00", 32), "\x01"+strings.Repeat("\x00", 31)
	ones := strings.Repeat("\xff", 30)
	for _, x := range []struct{ text, want string }{
		{nought, nought}, {one, one},
		{"\xec" + ones + "\x7f", "\xec" + ones + "\x7f"},
		{"\xed" + ones + "\x7f", nought},
		{"\xee" + ones + "\x7f", one},
		{"\xff" + ones + "\x7f", "\x12" + strings.Repeat("\x00", 31)},
		{"\xff" + ones + "\xff", "\x12" + strings.Repeat("\x00", 31)},
		{strings.Repeat("\x00", 31) + "\x80", nought},
		{"\xec" + ones + "\xff", "\xec" + ones + "\x7f"},
	} {
		got, code := impl.FieldRead(x.text)
		wantText(t, fmt.Sprintf("FieldRead %x", x.text), got, code, x.want)
	}
}

func TestP2SumsDifferencesProducts(t *testing.T) {
	list := fieldNumbers()
	for _, a := range list {
		for _, b := range list {
			pair := fmt.Sprint(" ", a, " ", b)
			got, code := impl.FieldAdd(text32(a), text32(b))
			wantText(t, "FieldAdd"+pair, got, code, text32(modulo(new(big.Int).Add(a, b))))
			got, code = impl.FieldSub(text32(a), text32(b))
			wantText(t, "FieldSub"+pair, got, code, text32(modulo(new(big.Int).Sub(a, b))))
			got, code = impl.FieldMul(text32(a), text32(b))
			wantText(t, "FieldMul"+pair, got, code, text32(modulo(new(big.Int).Mul(a, b))))
		}
	}
}

func TestP2ManyProducts(t *testing.T) {
	list := someNumbers(400)
	for i := range list[1:] {
		a, b := modulo(list[i]), modulo(list[i+1])
		got, code := impl.FieldMul(text32(a), text32(b))
		wantText(t, fmt.Sprint("FieldMul ", a, " ", b), got, code, text32(modulo(new(big.Int).Mul(a, b))))
	}
}

// TestP2SumsAtThePrime takes numbers whose sum or product is next to the prime, or to its double.
func TestP2SumsAtThePrime(t *testing.T) {
	for _, n := range fieldNumbers() {
		for by := int64(-20); by <= 20; by++ {
			other := modulo(more(new(big.Int).Neg(n), by))
			got, code := impl.FieldAdd(text32(n), text32(other))
			wantText(t, fmt.Sprint("FieldAdd ", n, " ", other), got, code, text32(modulo(big.NewInt(by))))
			same := modulo(more(n, by))
			got, code = impl.FieldSub(text32(n), text32(same))
			wantText(t, fmt.Sprint("FieldSub ", n, " ", same), got, code, text32(modulo(big.NewInt(-by))))
			if n.Sign() > 0 {
				part := modulo(new(big.Int).Mul(big.NewInt(by), new(big.Int).ModInverse(n, prime())))
				got, code = impl.FieldMul(text32(n), text32(part))
				wantText(t, fmt.Sprint("FieldMul ", n, " ", part), got, code, text32(modulo(big.NewInt(by))))
			}
		}
	}
}

// TestP2AnswersAtLimbs asks for answers next to where a limb of any usual size ends, by numbers whose sum, difference and
// product run over the prime on the way: what comes back at the bottom may run over there once more.
func TestP2AnswersAtLimbs(t *testing.T) {
	var starts []*big.Int
	for _, bit := range []uint{25, 26, 51, 52, 64, 102, 103, 153, 154, 204, 205, 253} {
		for _, times := range []int64{1, 2, 3} {
			starts = append(starts, new(big.Int).Mul(power2(bit), big.NewInt(times)))
		}
	}
	starts = append(starts, power2(51), new(big.Int).Add(power2(51), power2(102)), new(big.Int).Add(power2(204), power2(52)))
	ways := []*big.Int{power2(254), more(power2(254), 1<<51), less(prime(), 1), less(prime(), 1<<40), modulo(someNumbers(1)[0])}
	for _, n := range ways {
		inverse := new(big.Int).ModInverse(n, prime())
		for _, start := range starts {
			for by := int64(-60); by <= 60; by++ {
				want := modulo(more(start, by))
				rest := modulo(new(big.Int).Sub(want, n))
				got, code := impl.FieldAdd(text32(n), text32(rest))
				wantText(t, fmt.Sprint("FieldAdd ", n, " ", rest), got, code, text32(want))
				rest = modulo(new(big.Int).Sub(n, want))
				got, code = impl.FieldSub(text32(n), text32(rest))
				wantText(t, fmt.Sprint("FieldSub ", n, " ", rest), got, code, text32(want))
				rest = modulo(new(big.Int).Mul(want, inverse))
				got, code = impl.FieldMul(text32(n), text32(rest))
				wantText(t, fmt.Sprint("FieldMul ", n, " ", rest), got, code, text32(want))
			}
		}
	}
}

func TestP2LawsOfOneAndTwo(t *testing.T) {
	ok := must(t)
	nought, one := ok(impl.FieldOf(0)), ok(impl.FieldOf(1))
	for _, n := range fieldNumbers() {
		a := text32(n)
		opposite := ok(impl.FieldSub(nought, a))
		if ok(impl.FieldAdd(a, nought)) != a || ok(impl.FieldMul(a, one)) != a || ok(impl.FieldMul(a, nought)) != nought || ok(impl.FieldSub(a, nought)) != a {
			t.Error("nought and one,", n)
		}
		if ok(impl.FieldAdd(a, opposite)) != nought || ok(impl.FieldSub(a, a)) != nought {
			t.Error("the opposite of", n)
		}
		if a != nought && ok(impl.FieldMul(a, ok(impl.FieldInverse(a)))) != one {
			t.Error("the inverse of", n)
		}
		for _, m := range fieldNumbers() {
			b := text32(m)
			if ok(impl.FieldAdd(a, b)) != ok(impl.FieldAdd(b, a)) || ok(impl.FieldMul(a, b)) != ok(impl.FieldMul(b, a)) {
				t.Error("exchanged:", n, m)
			}
			if ok(impl.FieldAdd(ok(impl.FieldSub(a, b)), b)) != a || ok(impl.FieldSub(ok(impl.FieldAdd(a, b)), b)) != a {
				t.Error("taken away and added:", n, m)
			}
			if product := ok(impl.FieldMul(a, b)); (product == nought) != (a == nought || b == nought) {
				t.Error("nought is a product:", n, m)
			}
		}
	}
}

func TestP2LawsOfThree(t *testing.T) {
	ok := must(t)
	add := func(a, b string) string { return ok(impl.FieldAdd(a, b)) }
	sub := func(a, b string) string { return ok(impl.FieldSub(a, b)) }
	mul := func(a, b string) string { return ok(impl.FieldMul(a, b)) }
	var list []string
	for _, n := range fewNumbers() {
		list = append(list, text32(n))
	}
	for _, a := range list {
		for _, b := range list {
			for _, c := range list {
				if add(add(a, b), c) != add(a, add(b, c)) {
					t.Errorf("sums in either order: %x %x %x", a, b, c)
				}
				if mul(mul(a, b), c) != mul(a, mul(b, c)) {
					t.Errorf("products in either order: %x %x %x", a, b, c)
				}
				if mul(a, add(b, c)) != add(mul(a, b), mul(a, c)) || mul(a, sub(b, c)) != sub(mul(a, b), mul(a, c)) {
					t.Errorf("a product of a sum: %x %x %x", a, b, c)
				}
			}
		}
	}
}

func exponents() []*big.Int {
	p := prime()
	out := []*big.Int{
		big.NewInt(0), big.NewInt(1), big.NewInt(2), big.NewInt(3), big.NewInt(255), big.NewInt(256), big.NewInt(257),
		new(big.Int).Rsh(p, 1), less(p, 2), less(p, 1), p, more(p, 1), new(big.Int).Add(p, p),
		less(power2(255), 1), power2(255), more(power2(255), 1), less(power2(256), 2), less(power2(256), 1),
	}
	return append(out, someNumbers(3)...)
}

func TestP2Powers(t *testing.T) {
	for _, a := range fewNumbers() {
		for _, e := range exponents() {
			got, code := impl.FieldPower(text32(a), text32(e))
			wantText(t, fmt.Sprint("FieldPower ", a, " ", e), got, code, text32(new(big.Int).Exp(a, e, prime())))
		}
	}
	for bit := range uint(256) {
		got, code := impl.FieldPower(text32(big.NewInt(3)), text32(power2(bit)))
		wantText(t, fmt.Sprint("FieldPower 3 to 2 to the ", bit), got, code, text32(new(big.Int).Exp(big.NewInt(3), power2(bit), prime())))
	}
}

func TestP2PowersToNought(t *testing.T) {
	nought, one := strings.Repeat("\x00", 32), "\x01"+strings.Repeat("\x00", 31)
	for _, n := range fieldNumbers() {
		got, code := impl.FieldPower(text32(n), nought)
		wantText(t, fmt.Sprint("FieldPower to nought of ", n), got, code, one)
		got, code = impl.FieldPower(text32(n), one)
		wantText(t, fmt.Sprint("FieldPower to one of ", n), got, code, text32(n))
	}
}

// TestP2AllBitsOfAnExponent: 2 to the 256 less 1 is twice p - 1, and 39 more.
func TestP2AllBitsOfAnExponent(t *testing.T) {
	ok := must(t)
	all := strings.Repeat("\xff", 32)
	rest := text32(big.NewInt(39))
	for _, n := range fieldNumbers() {
		got, code := impl.FieldPower(text32(n), all)
		wantText(t, fmt.Sprint("FieldPower to all bits of ", n), got, code, ok(impl.FieldPower(text32(n), rest)))
		wantText(t, fmt.Sprint("FieldPower to all bits of ", n), got, code, text32(new(big.Int).Exp(n, number(all), prime())))
	}
}

func TestP2Fermat(t *testing.T) {
	one := "\x01" + strings.Repeat("\x00", 31)
	list := slices.Concat(fieldNumbers(), someNumbers(12))
	for _, n := range list {
		a := text32(modulo(n))
		got, code := impl.FieldPower(a, text32(prime()))
		wantText(t, fmt.Sprint("FieldPower to the prime of ", n), got, code, a)
		if number(a).Sign() > 0 {
			got, code = impl.FieldPower(a, text32(less(prime(), 1)))
			wantText(t, fmt.Sprint("FieldPower to the prime less one of ", n), got, code, one)
		}
	}
}

func TestP2Inverses(t *testing.T) {
	ok := must(t)
	list := slices.Concat(fieldNumbers(), someNumbers(12))
	for _, n := range list {
		n = modulo(n)
		if n.Sign() == 0 {
			continue
		}
		got, code := impl.FieldInverse(text32(n))
		wantText(t, fmt.Sprint("FieldInverse ", n), got, code, text32(new(big.Int).ModInverse(n, prime())))
		if ok(impl.FieldInverse(got)) != text32(n) {
			t.Error("the inverse of the inverse of", n)
		}
	}
}

// digitsByDoubling works on digits alone: bit by bit from the highest one they are doubled, and the bit is added.
func digitsByDoubling(text string) string {
	digits := []byte{0}
	for bit := len(text)*8 - 1; bit >= 0; bit-- {
		carry := text[bit/8] >> (bit % 8) & 1
		for i := range digits {
			d := digits[i]*2 + carry
			digits[i], carry = d%10, d/10
		}
		if carry > 0 {
			digits = append(digits, carry)
		}
	}
	for i := range digits {
		digits[i] += '0'
	}
	slices.Reverse(digits)
	return string(digits)
}

func TestP2Decimals(t *testing.T) {
	list := slices.Concat(fieldNumbers(), someNumbers(60))
	ten := big.NewInt(1)
	for ten.Cmp(prime()) < 0 {
		list = append(list, less(ten, 1), ten, more(ten, 1))
		ten = new(big.Int).Mul(ten, big.NewInt(10))
	}
	for _, n := range list {
		a := text32(modulo(n))
		got, code := impl.FieldDecimal(a)
		wantText(t, fmt.Sprint("FieldDecimal ", n), got, code, digitsByDoubling(a))
		wantText(t, fmt.Sprint("FieldDecimal ", n), got, code, modulo(n).String())
	}
}

func TestP2NamedDecimals(t *testing.T) {
	for _, x := range []struct {
		n    *big.Int
		want string
	}{
		{big.NewInt(0), "0"}, {big.NewInt(7), "7"}, {big.NewInt(10), "10"}, {power2(40), "1099511627776"},
		{power2(64), "18446744073709551616"},
		{power2(128), "340282366920938463463374607431768211456"},
		{less(prime(), 1), "57896044618658097711785492504343953926634992332820282019728792003956564819948"},
	} {
		got, code := impl.FieldDecimal(text32(x.n))
		wantText(t, "FieldDecimal "+x.want, got, code, x.want)
	}
}
