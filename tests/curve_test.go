package tests

import (
	"crypto/ecdh"
	"encoding/hex"
	"fmt"
	"math/big"
	"slices"
	"strings"
	"testing"

	"loop.example/g00254/impl"
)

func unhex(t *testing.T, digits string) string {
	t.Helper()
	b, err := hex.DecodeString(digits)
	if err != nil {
		t.Fatal(err)
	}
	return string(b)
}

// scalars are all bits 0, all bits 1, small and great ones, and some that look like any other.
func scalars(n int) []string {
	out := []string{
		strings.Repeat("\x00", 32), strings.Repeat("\xff", 32),
		text32(big.NewInt(1)), text32(big.NewInt(7)), text32(big.NewInt(8)), text32(power2(254)), text32(power2(255)),
		text32(prime()), text32(less(power2(255), 1)), text32(less(power2(256), 8)),
	}
	for _, n := range someNumbers(n) {
		out = append(out, text32(n))
	}
	return out
}

// smallPoints are the points of a small order, on the curve and on its twist: going up by a multiple of 8 leads to nought.
func smallPoints() []*big.Int {
	out := []*big.Int{big.NewInt(0), big.NewInt(1), less(prime(), 1)}
	for _, digits := range []string{
		"325606250916557431795983626356110631294008115727848805560023387167927233504",
		"39382357235489614581723060781553021112529911719440698176882885853963445705823",
	} {
		n, _ := new(big.Int).SetString(digits, 10)
		out = append(out, n)
	}
	return out
}

func isSmall(u *big.Int) bool {
	return slices.ContainsFunc(smallPoints(), func(n *big.Int) bool { return n.Cmp(u) == 0 })
}

// points are numbers below 2 to the 256 to go up from: near nought, near the prime, with the highest bit, and others.
func points() []*big.Int {
	p := prime()
	out := slices.Concat(smallPoints(), []*big.Int{
		big.NewInt(2), big.NewInt(3), big.NewInt(9), big.NewInt(18), big.NewInt(19), big.NewInt(486662),
		less(p, 9), less(p, 2), p, more(p, 1), more(p, 2), more(p, 9), less(power2(255), 1),
	}, someNumbers(6))
	for _, n := range slices.Clone(out) {
		if n.BitLen() <= 255 {
			out = append(out, new(big.Int).Add(n, power2(255)))
		}
	}
	return out
}

// readPoint is what a number of 256 bits means as a point: its highest bit falls off, and the rest is taken modulo the prime.
func readPoint(n *big.Int) *big.Int {
	return modulo(new(big.Int).Mod(n, power2(255)))
}

func TestP3VectorsOfScalars(t *testing.T) {
	// RFC 7748, 5.2
	for _, x := range []struct{ k, u, want string }{
		{
			"a546e36bf0527c9d3b16154b82465edd62144c0ac1fc5a18506a2244ba449ac4",
			"e6db6867583030db3594c1a424b15f7c726624ec26b3353b10a903a6d0ab1c4c",
			"c3da55379de9c6908e94ea4df28d084f32eccf03491c71f754b4075577a28552",
		},
		{
			"4b66e9d4d1b4673c5ad22691957d6af5c11b6421e0ea01d42ca4169e7918ba0d",
			"e5210f12786811d3f4b7959d0538ae2c31dbe7106fc03c3efc4cd549c715a493",
			"95cbde9476e8907d7aade45cb4b873f88b595a68799fa152e6f8f7647aac7957",
		},
	} {
		got, code := impl.ScalarMult(unhex(t, x.k), unhex(t, x.u))
		wantText(t, "ScalarMult "+x.k, got, code, unhex(t, x.want))
		got, code = impl.SharedSecret(unhex(t, x.k), unhex(t, x.u))
		wantText(t, "SharedSecret "+x.k, got, code, unhex(t, x.want))
	}
}

// TestP3VectorsOverAndOver has what came out as the next scalar, and the scalar as the next point (RFC 7748, 5.2).
func TestP3VectorsOverAndOver(t *testing.T) {
	ok := must(t)
	k := text32(big.NewInt(9))
	u := k
	for i := 1; i <= 1000; i++ {
		k, u = ok(impl.ScalarMult(k, u)), k
		if i == 1 {
			wantText(t, "once", k, impl.OK, unhex(t, "422c8e7a6227d7bca1350b3e2bb7279f7897b87bb6854b783c60e80311ae3079"))
		}
	}
	wantText(t, "1000 times", k, impl.OK, unhex(t, "684cf59ba83309552800ef566f2f4d3c1c3887c49360e3875f2eb94d99532c51"))
}

func TestP3VectorsOfTwo(t *testing.T) {
	// RFC 7748, 6.1
	a := unhex(t, "77076d0a7318a57d3c16c17251b26645df4c2f87ebc0992ab177fba51db92c2a")
	b := unhex(t, "5dab087e624a8a4b79e17f8b83800ee66f3bb1292618b6fd1c2f8b27ff88e0eb")
	publicA := unhex(t, "8520f0098930a754748b7ddcb43ef75a0dbf3a0d26381af4eba4a98eaa9b4e6a")
	publicB := unhex(t, "de9edb7d7b7dc1b4d35b61c2ece435373f8343c85b78674dadfc7e146f882b4f")
	shared := unhex(t, "4a5d9d5ba4ce2de1728e3bf480350f25e07e21c947d19e3376f09b3c1e161742")
	got, code := impl.PublicKey(a)
	wantText(t, "PublicKey of the first", got, code, publicA)
	got, code = impl.PublicKey(b)
	wantText(t, "PublicKey of the second", got, code, publicB)
	got, code = impl.SharedSecret(a, publicB)
	wantText(t, "SharedSecret of the first", got, code, shared)
	got, code = impl.SharedSecret(b, publicA)
	wantText(t, "SharedSecret of the second", got, code, shared)
}

// libraryScalarMult is nought where the library refuses: it does so of that answer alone.
func libraryScalarMult(t *testing.T, k, u string) string {
	t.Helper()
	private, err := ecdh.X25519().NewPrivateKey([]byte(k))
	if err != nil {
		t.Fatal(err)
	}
	public, err := ecdh.X25519().NewPublicKey([]byte(u))
	if err != nil {
		t.Fatal(err)
	}
	out, err := private.ECDH(public)
	if err != nil {
		return strings.Repeat("\x00", 32)
	}
	return string(out)
}

func TestP3ScalarMultAgainstTheLibrary(t *testing.T) {
	for _, k := range scalars(4) {
		for _, n := range points() {
			call := fmt.Sprintf("ScalarMult %x %x", k, text32(n))
			got, code := impl.ScalarMult(k, text32(n))
			wantText(t, call, got, code, libraryScalarMult(t, k, text32(n)))
			if !impl.FieldOK(got) {
				t.Error(call, "is no number of the field")
			}
		}
	}
	list := someNumbers(200)
	for i := range list[1:] {
		k, u := text32(list[i]), text32(list[i+1])
		got, code := impl.ScalarMult(k, u)
		wantText(t, fmt.Sprintf("ScalarMult %x %x", k, u), got, code, libraryScalarMult(t, k, u))
	}
}

// affine is a point of the curve on which d times y squared is the document's sum of powers of x. With d the sum of powers
// at u, the point (u, 1) is on it, whether u is of the curve itself or of its twist.
type affine struct {
	x, y    *big.Int
	nowhere bool
}

func sumOfPowers(x *big.Int) *big.Int {
	sum := new(big.Int).Mul(x, x)
	sum.Add(sum, new(big.Int).Mul(x, big.NewInt(486662)))
	sum.Add(sum, big.NewInt(1))
	return modulo(sum.Mul(sum, x))
}

func slopeAtDouble(d *big.Int, a affine) *big.Int {
	up := new(big.Int).Mul(a.x, a.x)
	up.Mul(up, big.NewInt(3))
	up.Add(up, new(big.Int).Mul(a.x, big.NewInt(2*486662)))
	up.Add(up, big.NewInt(1))
	down := new(big.Int).Mul(d, a.y)
	down.Mul(down, big.NewInt(2))
	return up.Mul(up, down.ModInverse(modulo(down), prime()))
}

func slopeBetween(a, b affine) *big.Int {
	up, down := new(big.Int).Sub(b.y, a.y), modulo(new(big.Int).Sub(b.x, a.x))
	return up.Mul(up, down.ModInverse(down, prime()))
}

// plus is the law of chords and tangents.
func (a affine) plus(d *big.Int, b affine) affine {
	if a.nowhere {
		return b
	}
	if b.nowhere {
		return a
	}
	if a.x.Cmp(b.x) == 0 && modulo(new(big.Int).Add(a.y, b.y)).Sign() == 0 {
		return affine{nowhere: true}
	}
	var slope *big.Int
	if a.x.Cmp(b.x) == 0 {
		slope = slopeAtDouble(d, a)
	} else {
		slope = slopeBetween(a, b)
	}
	x := new(big.Int).Mul(slope, slope)
	x.Mul(x, d)
	x.Sub(x, big.NewInt(486662))
	x.Sub(x, a.x)
	x = modulo(x.Sub(x, b.x))
	y := new(big.Int).Sub(a.x, x)
	y.Mul(y, slope)
	return affine{x: x, y: modulo(y.Sub(y, a.y))}
}

// chordScalarMult is k times the point of x = u, as the curve's equation says, with no bit of k taken for granted.
func chordScalarMult(k, u *big.Int) *big.Int {
	d := sumOfPowers(u)
	if d.Sign() == 0 {
		return big.NewInt(0)
	}
	out, step := affine{nowhere: true}, affine{x: u, y: big.NewInt(1)}
	for i := range k.BitLen() {
		if k.Bit(i) == 1 {
			out = out.plus(d, step)
		}
		step = step.plus(d, step)
	}
	if out.nowhere {
		return big.NewInt(0)
	}
	return out.x
}

// clampedNumber is what the document asks of a scalar, said of numbers.
func clampedNumber(k string) *big.Int {
	n := number(k)
	for bit, value := range map[int]uint{0: 0, 1: 0, 2: 0, 254: 1, 255: 0} {
		n.SetBit(n, bit, value)
	}
	return n
}

func TestP3ScalarMultIsOnTheCurve(t *testing.T) {
	for _, k := range slices.Concat(scalars(1)[:2], scalars(3)[10:]) {
		for _, n := range points() {
			u := readPoint(n)
			got, code := impl.ScalarMult(k, text32(n))
			wantText(t, fmt.Sprintf("ScalarMult %x %v", k, n), got, code, text32(chordScalarMult(clampedNumber(k), u)))
		}
	}
}

func TestP3ScalarMultReadsThePoint(t *testing.T) {
	ok := must(t)
	var list []*big.Int
	for n := int64(-2); n <= 18; n++ {
		list = append(list, more(prime(), n))
	}
	list = append(list, points()...)
	for _, k := range scalars(2)[8:] {
		for _, n := range list {
			u := text32(n)
			read := ok(impl.FieldRead(u))
			if read != text32(readPoint(n)) {
				t.Fatal("FieldRead", n)
			}
			want := ok(impl.ScalarMult(k, read))
			got, code := impl.ScalarMult(k, u)
			wantText(t, fmt.Sprintf("ScalarMult %x %x", k, u), got, code, want)
			code = impl.OK
			if number(want).Sign() == 0 {
				want, code = "", impl.ErrZero
			}
			got, gotCode := impl.SharedSecret(k, u)
			if got != want || gotCode != code {
				t.Errorf("SharedSecret %x %x: got %x, code %d; want %x, code %d", k, u, got, gotCode, want, code)
			}
		}
	}
}

func TestP3NamedPoints(t *testing.T) {
	nought := strings.Repeat("\x00", 32)
	for _, k := range scalars(4) {
		for _, n := range []*big.Int{big.NewInt(0), big.NewInt(1), less(prime(), 1), prime(), more(prime(), 1)} {
			got, code := impl.ScalarMult(k, text32(n))
			wantText(t, fmt.Sprintf("ScalarMult %x %v", k, n), got, code, nought)
		}
		want, _ := impl.ScalarMult(k, text32(big.NewInt(18)))
		got, code := impl.ScalarMult(k, text32(less(power2(255), 1)))
		wantText(t, fmt.Sprintf("ScalarMult %x, the point of all bits but the highest", k), got, code, want)
		if got == nought {
			t.Errorf("ScalarMult %x 18 is nought", k)
		}
	}
}

func TestP3PublicKeyGoesUpFromNine(t *testing.T) {
	nine := text32(big.NewInt(9))
	for _, k := range scalars(60) {
		got, code := impl.PublicKey(k)
		want, _ := impl.ScalarMult(k, nine)
		wantText(t, fmt.Sprintf("PublicKey %x", k), got, code, want)
		wantText(t, fmt.Sprintf("PublicKey %x", k), got, code, libraryScalarMult(t, k, nine))
	}
}

func TestP3SharedSecretOfNought(t *testing.T) {
	// the prime and one more are nought and one modulo the prime; no other point of a small order has a second number
	list := append(smallPoints(), prime(), more(prime(), 1))
	for _, k := range scalars(4) {
		for _, n := range list {
			for _, u := range []*big.Int{n, new(big.Int).Add(n, power2(255))} {
				got, code := impl.SharedSecret(k, text32(u))
				wantCode(t, fmt.Sprintf("SharedSecret %x %v", k, u), got, code, impl.ErrZero)
			}
		}
	}
}

// TestP3SharedSecretElsewhere: at all other points there is a secret, and it is where ScalarMult goes.
func TestP3SharedSecretElsewhere(t *testing.T) {
	for _, k := range scalars(4) {
		for _, n := range points() {
			if isSmall(readPoint(n)) {
				continue
			}
			want, _ := impl.ScalarMult(k, text32(n))
			got, code := impl.SharedSecret(k, text32(n))
			wantText(t, fmt.Sprintf("SharedSecret %x %v", k, n), got, code, want)
		}
	}
}

func TestP3DiffieAndHellman(t *testing.T) {
	ok := must(t)
	list := scalars(30)
	for i, a := range list {
		publicA := ok(impl.PublicKey(a))
		for _, b := range list[i:] {
			publicB := ok(impl.PublicKey(b))
			shared, code := impl.SharedSecret(a, publicB)
			wantText(t, fmt.Sprintf("SharedSecret of %x and %x", a, b), shared, code, ok(impl.SharedSecret(b, publicA)))
			if len(shared) != impl.FieldSize || !impl.FieldOK(shared) {
				t.Errorf("SharedSecret of %x and %x is %x", a, b, shared)
			}
		}
	}
}

// TestP3SecretsDiffer: who has another scalar, in a bit that counts, has another secret.
func TestP3SecretsDiffer(t *testing.T) {
	ok := must(t)
	list := someNumbers(40)
	public := ok(impl.PublicKey(text32(list[0])))
	seen := map[string]int{}
	for i, n := range list {
		secret := ok(impl.SharedSecret(text32(n), public))
		if before, found := seen[secret]; found {
			t.Error("one secret of scalars", before, i)
		}
		seen[secret] = i
	}
}

// TestP3AnyStart: going up by two scalars may be exchanged from any point, of the curve or of its twist.
func TestP3AnyStart(t *testing.T) {
	ok := must(t)
	list := someNumbers(6)
	for _, n := range points() {
		for i := range list[1:] {
			a, b := text32(list[i]), text32(list[i+1])
			left := ok(impl.ScalarMult(a, ok(impl.ScalarMult(b, text32(n)))))
			if right := ok(impl.ScalarMult(b, ok(impl.ScalarMult(a, text32(n))))); left != right {
				t.Errorf("from %v by %x and %x: %x, %x", n, a, b, left, right)
			}
		}
	}
}

// doubledNumber is the square of u squared less 1, divided by 4 times the sum of powers at u; nought where there is none.
func doubledNumber(u *big.Int) *big.Int {
	up := less(new(big.Int).Mul(u, u), 1)
	up.Mul(up, up)
	down := modulo(new(big.Int).Mul(big.NewInt(4), sumOfPowers(u)))
	if down.Sign() == 0 {
		return big.NewInt(0)
	}
	return modulo(up.Mul(up, down.ModInverse(down, prime())))
}

func TestP3DoublePoint(t *testing.T) {
	list := slices.Concat(fieldNumbers(), smallPoints(), someNumbers(60))
	for _, n := range list {
		u := modulo(n)
		got, code := impl.DoublePoint(text32(u))
		wantText(t, fmt.Sprint("DoublePoint ", u), got, code, text32(doubledNumber(u)))
		wantText(t, fmt.Sprint("DoublePoint ", u), got, code, text32(chordScalarMult(big.NewInt(2), u)))
	}
}

func TestP3DoublePointOfSmallOrder(t *testing.T) {
	nought, one := strings.Repeat("\x00", 32), text32(big.NewInt(1))
	for _, n := range smallPoints()[:3] {
		got, code := impl.DoublePoint(text32(n))
		wantText(t, fmt.Sprint("DoublePoint ", n), got, code, nought)
	}
	for _, n := range smallPoints()[3:] {
		got, code := impl.DoublePoint(text32(n))
		wantText(t, fmt.Sprint("DoublePoint ", n), got, code, one)
	}
}

func TestP3DoublingAndGoingUp(t *testing.T) {
	ok := must(t)
	list := slices.Concat(smallPoints(), fewNumbers(), someNumbers(10))
	for _, k := range scalars(6) {
		for _, n := range list {
			u := text32(modulo(n))
			left := ok(impl.DoublePoint(ok(impl.ScalarMult(k, u))))
			if right := ok(impl.ScalarMult(k, ok(impl.DoublePoint(u)))); left != right {
				t.Errorf("by %x from %x: doubled behind %x, ahead %x", k, u, left, right)
			}
		}
	}
}

// TestP3DoublingDoublesTheScalar takes scalars that clamping leaves as they are, doubled or not, but for the highest bit.
func TestP3DoublingDoublesTheScalar(t *testing.T) {
	ok := must(t)
	for _, n := range someNumbers(10) {
		half := clampedNumber(text32(n))
		u := text32(modulo(someNumbers(20)[19]))
		got, code := impl.DoublePoint(ok(impl.ScalarMult(text32(half), u)))
		wantText(t, fmt.Sprint("DoublePoint behind ", half), got, code, text32(chordScalarMult(new(big.Int).Lsh(half, 1), number(u))))
	}
}
