package tests

import (
	"fmt"
	"math"
	"math/big"
	"slices"
	"strings"
	"testing"

	"loop.example/g00254/impl"
)

func fieldOfOne() []oneText {
	return []oneText{{"FieldInverse", impl.FieldInverse}, {"FieldDecimal", impl.FieldDecimal}}
}

func fieldOfTwo() []twoTexts {
	return []twoTexts{{"FieldAdd", impl.FieldAdd}, {"FieldSub", impl.FieldSub}, {"FieldMul", impl.FieldMul}}
}

func TestP1FieldOK(t *testing.T) {
	for _, n := range fieldNumbers() {
		if !impl.FieldOK(text32(n)) {
			t.Error("not FieldOK of", n)
		}
	}
	for _, a := range slices.Concat(wrongNumbers(), wrongLengths(), longTexts()) {
		if impl.FieldOK(a) {
			t.Errorf("FieldOK of %d bytes, %.40x", len(a), a)
		}
	}
	for n := range int64(19) {
		if impl.FieldOK(text32(more(prime(), n))) || !impl.FieldOK(text32(less(prime(), n+1))) {
			t.Error("FieldOK near the prime,", n)
		}
	}
}

func TestP1FieldOfBounds(t *testing.T) {
	for _, n := range []int{0, 1, 2, 255, 256, 258, 65535, 65536, 1<<31 - 1, 1 << 32, 1<<40 - 1, 1 << 40} {
		got, code := impl.FieldOf(n)
		wantText(t, fmt.Sprint("FieldOf ", n), got, code, text32(big.NewInt(int64(n))))
	}
	for _, n := range []int{-1, -2, 1<<40 + 1, 1<<40 + 2, 1 << 41, 1 << 51, 1 << 62, -(1 << 40), math.MinInt, math.MaxInt} {
		got, code := impl.FieldOf(n)
		wantCode(t, fmt.Sprint("FieldOf ", n), got, code, impl.ErrRange)
	}
}

func TestP1FieldReadWrongLengths(t *testing.T) {
	for _, b := range wrongLengths() {
		got, code := impl.FieldRead(b)
		wantCode(t, fmt.Sprint("FieldRead of ", len(b), " bytes"), got, code, impl.ErrBad)
	}
	for _, b := range longTexts() {
		got, code := impl.FieldRead(b)
		wantCode(t, fmt.Sprint("FieldRead of ", len(b), " bytes"), got, code, impl.ErrLong)
	}
}

func TestP1FieldOfOneWrong(t *testing.T) {
	for _, f := range fieldOfOne() {
		for _, a := range slices.Concat(wrongNumbers(), wrongLengths()) {
			got, code := f.call(a)
			wantCode(t, fmt.Sprintf("%s of %d bytes, %.40x", f.name, len(a), a), got, code, impl.ErrBad)
		}
		for _, a := range longTexts() {
			got, code := f.call(a)
			wantCode(t, fmt.Sprint(f.name, " of ", len(a), " bytes"), got, code, impl.ErrLong)
		}
	}
}

func TestP1FieldOfTwoWrong(t *testing.T) {
	right := text32(big.NewInt(7))
	wrong := slices.Concat(wrongNumbers(), wrongLengths())
	for _, f := range fieldOfTwo() {
		for _, a := range wrong {
			got, code := f.call(a, right)
			wantCode(t, fmt.Sprintf("%s, first of %d bytes, %.40x", f.name, len(a), a), got, code, impl.ErrBad)
			got, code = f.call(right, a)
			wantCode(t, fmt.Sprintf("%s, second of %d bytes, %.40x", f.name, len(a), a), got, code, impl.ErrBad)
			got, code = f.call(a, a)
			wantCode(t, fmt.Sprintf("%s, both of %d bytes, %.40x", f.name, len(a), a), got, code, impl.ErrBad)
		}
		wantLongFirst(t, f, append(wrong, right))
	}
}

func TestP1FieldPowerWrong(t *testing.T) {
	right := text32(big.NewInt(7))
	for _, a := range slices.Concat(wrongNumbers(), wrongLengths()) {
		got, code := impl.FieldPower(a, right)
		wantCode(t, fmt.Sprintf("FieldPower of %d bytes, %.40x", len(a), a), got, code, impl.ErrBad)
	}
	for _, e := range wrongLengths() {
		got, code := impl.FieldPower(right, e)
		wantCode(t, fmt.Sprint("FieldPower to one of ", len(e), " bytes"), got, code, impl.ErrBad)
		got, code = impl.FieldPower(text32(prime()), e)
		wantCode(t, fmt.Sprint("FieldPower of the prime to one of ", len(e), " bytes"), got, code, impl.ErrBad)
	}
	wantLongFirst(t, twoTexts{"FieldPower", impl.FieldPower}, slices.Concat(wrongNumbers(), wrongLengths(), []string{right}))
}

func TestP1FieldInverseOfNought(t *testing.T) {
	got, code := impl.FieldInverse(strings.Repeat("\x00", 32))
	wantCode(t, "FieldInverse of nought", got, code, impl.ErrZero)
	// the prime is nought modulo itself, but it is no number of the field: that fault is named first
	got, code = impl.FieldInverse(text32(prime()))
	wantCode(t, "FieldInverse of the prime", got, code, impl.ErrBad)
}

// fieldAnswers tells what all functions of names, codes and the field answer, in one order or the other.
func fieldAnswers(backwards bool) map[string]string {
	texts := slices.Concat(wrongNumbers(), wrongLengths(), longTexts(), []string{"a", "_x1", "ok", "zero"})
	for _, n := range fewNumbers() {
		texts = append(texts, text32(n))
	}
	if backwards {
		slices.Reverse(texts)
	}
	out := map[string]string{}
	for i := range texts {
		a := strings.Clone(texts[i])
		out[fmt.Sprintf("read %x", a)] = fmt.Sprintln(impl.FieldRead(a))
		out[fmt.Sprintf("inverse %x", a)] = fmt.Sprintln(impl.FieldInverse(a))
		out[fmt.Sprintf("decimal %x", a)] = fmt.Sprintln(impl.FieldDecimal(a))
		out[fmt.Sprintf("asked %x", a)] = fmt.Sprintln(impl.FieldOK(a), impl.NameOK(a), impl.CodeOf(a))
		b := strings.Clone(texts[(i+5)%len(texts)])
		if backwards {
			b = strings.Clone(texts[(i+len(texts)-5)%len(texts)])
		}
		out[fmt.Sprintf("sum %x %x", a, b)] = fmt.Sprintln(impl.FieldAdd(a, b))
		out[fmt.Sprintf("difference %x %x", a, b)] = fmt.Sprintln(impl.FieldSub(a, b))
		out[fmt.Sprintf("product %x %x", a, b)] = fmt.Sprintln(impl.FieldMul(a, b))
		out[fmt.Sprintf("power %x %x", a, b)] = fmt.Sprintln(impl.FieldPower(a, b))
		for _, n := range []int{len(a) - 32, len(a) << 36} {
			out[fmt.Sprint("of ", n)] = fmt.Sprintln(impl.FieldOf(n))
			out[fmt.Sprint("word ", n)] = fmt.Sprintln(impl.CodeWord(n))
		}
	}
	return out
}

func TestP1AlikeArgumentsAlikeAnswers(t *testing.T) { wantAlike(t, fieldAnswers) }

func TestP1CallsBesideEachOther(t *testing.T) { wantAlikeBeside(t, fieldAnswers) }

func TestP1ArgumentsStay(t *testing.T) {
	one := append(fieldOfOne(), oneText{"FieldRead", impl.FieldRead})
	two := append(fieldOfTwo(), twoTexts{"FieldPower", impl.FieldPower})
	wantArgumentsStay(t, one, two, text32(less(prime(), 1)), text32(power2(254)))
}
