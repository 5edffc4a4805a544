package impl

import (
	"math/bits"
	"strconv"
)

const FieldSize = 32

const (
	limbCount = 5
	limbBits  = 51
	limbMask  = 1<<limbBits - 1

	// primeGap is what 2 to the 255 is modulo the prime.
	primeGap = 19

	// primeLessTwo is an exponent, the lowest byte first: to its power a number is its inverse, by Fermat's little theorem.
	primeLessTwo = "\xeb\xff\xff\xff\xff\xff\xff\xff\xff\xff\xff\xff\xff\xff\xff\xff" +
		"\xff\xff\xff\xff\xff\xff\xff\xff\xff\xff\xff\xff\xff\xff\xff\x7f"
)

// limbs is a number modulo the prime, the lowest limb first. Five times 51 bits are 255, so that what runs over the top
// comes back at the bottom times primeGap. Each step ends carried: all limbs keep to their bits but the lowest, which may
// stand above them by less than 128. Only settled makes the one form of a number.
type limbs [limbCount]uint64

// wide is a sum of products, which one word of 64 bits can't hold: of limbs it needs up to 111 bits.
type wide struct{ high, low uint64 }

func (w wide) plusProduct(a, b uint64) wide {
	high, low := bits.Mul64(a, b)
	low, carry := bits.Add64(w.low, low, 0)
	high, _ = bits.Add64(w.high, high, carry)
	return wide{high, low}
}

// limbsOf reads FieldSize bytes; their highest bit falls off at the mask.
func limbsOf(b string) limbs {
	var x limbs
	for i := range FieldSize {
		at, shift := i*8/limbBits, i*8%limbBits
		x[at] |= uint64(b[i]) << shift & limbMask
		if shift > limbBits-8 && at+1 < limbCount {
			x[at+1] |= uint64(b[i]) >> (limbBits - shift)
		}
	}
	return x
}

func (a limbs) text() string {
	a = a.settled()
	var out [FieldSize]byte
	for i := range out {
		at, shift := i*8/limbBits, i*8%limbBits
		part := a[at] >> shift
		if shift > limbBits-8 && at+1 < limbCount {
			part |= a[at+1] << (limbBits - shift)
		}
		out[i] = byte(part)
	}
	return string(out[:])
}

// passed hands on what each limb has above its bits, and tells what is left over at the top.
func (a limbs) passed() (limbs, uint64) {
	var carry uint64
	for i := range a {
		sum := a[i] + carry
		a[i] = sum & limbMask
		carry = sum >> limbBits
	}
	return a, carry
}

func (a limbs) carried() limbs {
	a, carry := a.passed()
	a[0] += carry * primeGap
	return a
}

// settled is the one form below the prime. A carried number is below twice the prime; it has reached the prime if
// primeGap more reaches 2 to the 255, and to drop that top is then to take the prime away.
func (a limbs) settled() limbs {
	more := a
	more[0] += primeGap
	if less, top := more.passed(); top > 0 {
		return less
	}
	a, _ = a.passed()
	return a
}

func (a limbs) plus(b limbs) limbs {
	for i := range a {
		a[i] += b[i]
	}
	return a.carried()
}

// minus adds twice the prime first, so that no limb falls below nought.
func (a limbs) minus(b limbs) limbs {
	prime := limbs{limbMask + 1 - primeGap, limbMask, limbMask, limbMask, limbMask}
	for i := range a {
		a[i] += 2*prime[i] - b[i]
	}
	return a.carried()
}

// times keeps within its words: no product with primeGap in it is in the top sum, so what the top leaves over is below
// 2 to the 56, and primeGap times that fits.
func (a limbs) times(b limbs) limbs {
	var sums [limbCount]wide
	for i := range a {
		for j := range b {
			at, factor := i+j, a[i]
			if at >= limbCount {
				at, factor = at-limbCount, factor*primeGap
			}
			sums[at] = sums[at].plusProduct(factor, b[j])
		}
	}
	var out limbs
	var carry uint64
	for i, sum := range sums {
		sum = sum.plusProduct(carry, 1)
		out[i] = sum.low & limbMask
		carry = sum.high<<(64-limbBits) | sum.low>>limbBits
	}
	out[0] += carry * primeGap
	return out.carried()
}

// power reads the exponent as a text, the lowest byte first; nought to the power of nought is 1, as of any number.
func (a limbs) power(exponent string) limbs {
	out := limbs{1}
	for i := len(exponent)*8 - 1; i >= 0; i-- {
		out = out.times(out)
		if exponent[i/8]>>(i%8)&1 == 1 {
			out = out.times(a)
		}
	}
	return out
}

// shortDivided asks for a settled number and a divisor of at most 12 bits: then no step leaves its word.
func (a limbs) shortDivided(by uint64) (limbs, uint64) {
	var rest uint64
	for i := limbCount - 1; i >= 0; i-- {
		part := rest<<limbBits | a[i]
		a[i] = part / by
		rest = part % by
	}
	return a, rest
}

func (a limbs) decimal() string {
	a = a.settled()
	digits := ""
	for digits == "" || a != (limbs{}) {
		var digit uint64
		a, digit = a.shortDivided(10)
		digits = strconv.Itoa(int(digit)) + digits
	}
	return digits
}

// FieldOK holds a text against the one form of the number that it tells: a number that is too great has another one.
func FieldOK(a string) bool {
	return len(a) == FieldSize && limbsOf(a).text() == a
}

func FieldOf(n int) (string, int) {
	if n < 0 || n > 1<<40 {
		return "", ErrRange
	}
	return limbs{uint64(n)}.text(), OK
}

func FieldRead(b string) (string, int) {
	if code := sizeCode(b); code != OK {
		return "", code
	}
	return limbsOf(b).text(), OK
}

func FieldAdd(a, b string) (string, int) {
	if code := fieldCode(a, b); code != OK {
		return "", code
	}
	return limbsOf(a).plus(limbsOf(b)).text(), OK
}

func FieldSub(a, b string) (string, int) {
	if code := fieldCode(a, b); code != OK {
		return "", code
	}
	return limbsOf(a).minus(limbsOf(b)).text(), OK
}

func FieldMul(a, b string) (string, int) {
	if code := fieldCode(a, b); code != OK {
		return "", code
	}
	return limbsOf(a).times(limbsOf(b)).text(), OK
}

func FieldPower(a string, exponent string) (string, int) {
	if anyLong(a, exponent) {
		return "", ErrLong
	}
	if !FieldOK(a) || len(exponent) != FieldSize {
		return "", ErrBad
	}
	return limbsOf(a).power(exponent).text(), OK
}

func FieldInverse(a string) (string, int) {
	if code := fieldCode(a); code != OK {
		return "", code
	}
	x := limbsOf(a)
	if x == (limbs{}) {
		return "", ErrZero
	}
	return x.power(primeLessTwo).text(), OK
}

func FieldDecimal(a string) (string, int) {
	if code := fieldCode(a); code != OK {
		return "", code
	}
	return limbsOf(a).decimal(), OK
}

func fieldCode(numbers ...string) int {
	if anyLong(numbers...) {
		return ErrLong
	}
	for _, a := range numbers {
		if !FieldOK(a) {
			return ErrBad
		}
	}
	return OK
}

func sizeCode(texts ...string) int {
	if anyLong(texts...) {
		return ErrLong
	}
	for _, t := range texts {
		if len(t) != FieldSize {
			return ErrBad
		}
	}
	return OK
}
