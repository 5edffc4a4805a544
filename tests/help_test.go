package tests

import (
	"crypto/sha256"
	"fmt"
	"maps"
	"math/big"
	"strings"
	"sync"
	"testing"

	"loop.example/g00254/impl"
)

// The numbers of the tests are worked out by math/big, which the program does not use.

func power2(n uint) *big.Int { return new(big.Int).Lsh(big.NewInt(1), n) }

func prime() *big.Int { return less(power2(255), 19) }

func more(a *big.Int, by int64) *big.Int { return new(big.Int).Add(a, big.NewInt(by)) }

func less(a *big.Int, by int64) *big.Int { return new(big.Int).Sub(a, big.NewInt(by)) }

// text32 writes a number below 2 to the 256 as 32 bytes, the lowest first.
func text32(n *big.Int) string {
	b := n.FillBytes(make([]byte, 32))
	for i := range 16 {
		b[i], b[31-i] = b[31-i], b[i]
	}
	return string(b)
}

func number(text string) *big.Int {
	b := []byte(text)
	for i := range len(b) / 2 {
		b[i], b[len(b)-1-i] = b[len(b)-1-i], b[i]
	}
	return new(big.Int).SetBytes(b)
}

// someNumbers are numbers of 256 bits that look like any other; the same ones each time.
func someNumbers(n int) []*big.Int {
	var out []*big.Int
	h := sha256.Sum256([]byte("some numbers"))
	for range n {
		out = append(out, new(big.Int).SetBytes(h[:]))
		h = sha256.Sum256(h[:])
	}
	return out
}

// fieldNumbers are numbers below the prime: small ones, those where a limb of any usual size ends, those near the prime.
func fieldNumbers() []*big.Int {
	p := prime()
	var out []*big.Int
	for _, n := range []int64{0, 1, 2, 3, 9, 10, 18, 19, 20, 37, 38, 255, 256, 486662} {
		out = append(out, big.NewInt(n))
	}
	for _, bit := range []uint{26, 40, 51, 64, 102, 128, 153, 192, 204, 252, 254} {
		out = append(out, less(power2(bit), 1), power2(bit), more(power2(bit), 1))
	}
	half := new(big.Int).Rsh(p, 1)
	out = append(out, half, more(half, 1))
	for _, n := range []int64{256, 39, 38, 37, 20, 19, 18, 3, 2, 1} {
		out = append(out, less(p, n))
	}
	for _, n := range someNumbers(8) {
		out = append(out, n.Mod(n, p))
	}
	return out
}

// fewNumbers is a list short enough to take three of it in every way.
func fewNumbers() []*big.Int {
	p := prime()
	out := []*big.Int{big.NewInt(0), big.NewInt(1), big.NewInt(2), big.NewInt(19), less(power2(51), 1), power2(204), power2(254), less(p, 19), less(p, 2), less(p, 1)}
	for _, n := range someNumbers(2) {
		out = append(out, n.Mod(n, p))
	}
	return out
}

// wrongNumbers are texts of 32 bytes whose numbers are no numbers of the field.
func wrongNumbers() []string {
	p := prime()
	return []string{
		text32(p), text32(more(p, 1)), text32(more(p, 18)),
		text32(power2(255)), text32(more(power2(255), 1)), text32(less(power2(256), 1)),
		text32(new(big.Int).Add(power2(255), less(p, 1))), text32(new(big.Int).Add(p, p)),
	}
}

// wrongLengths are texts that have not 32 bytes but are not beyond MaxText.
func wrongLengths() []string {
	return []string{"", "\x01", strings.Repeat("\x00", 31), strings.Repeat("\x00", 33), strings.Repeat("\x01", 64), strings.Repeat("\x00", impl.MaxText)}
}

func longTexts() []string {
	return []string{strings.Repeat("\x00", impl.MaxText+1), strings.Repeat("a", 2*impl.MaxText)}
}

func wantText(t *testing.T, call string, got string, code int, want string) {
	t.Helper()
	if code != impl.OK || got != want {
		t.Errorf("%s: got %x, code %d; want %x, code 0", call, got, code, want)
	}
}

// wantCode also asks that the answer beside the code is zero.
func wantCode(t *testing.T, call string, got string, code int, want int) {
	t.Helper()
	if code != want || got != "" {
		t.Errorf("%s: got %q, code %d; want nothing, code %d", call, got, code, want)
	}
}

type oneText struct {
	name string
	call func(string) (string, int)
}

type twoTexts struct {
	name string
	call func(a, b string) (string, int)
}

// wantLongFirst asks that ErrLong comes ahead of what else may be wrong, in either place.
func wantLongFirst(t *testing.T, f twoTexts, others []string) {
	t.Helper()
	for _, long := range longTexts() {
		for _, a := range append(others, long) {
			got, code := f.call(a, long)
			wantCode(t, fmt.Sprintf("%s of %d, %d bytes", f.name, len(a), len(long)), got, code, impl.ErrLong)
			got, code = f.call(long, a)
			wantCode(t, fmt.Sprintf("%s of %d, %d bytes", f.name, len(long), len(a)), got, code, impl.ErrLong)
		}
	}
}

// wantAlike asks the same things over and over, in one order and the other.
func wantAlike(t *testing.T, answers func(backwards bool) map[string]string) {
	t.Helper()
	first := answers(false)
	for _, backwards := range []bool{false, true, false} {
		if !maps.Equal(first, answers(backwards)) {
			t.Error("answers differ from those of before; backwards:", backwards)
		}
	}
}

func wantAlikeBeside(t *testing.T, answers func(backwards bool) map[string]string) {
	t.Helper()
	first := answers(false)
	var alike [4]bool
	var group sync.WaitGroup
	for i := range alike {
		group.Go(func() { alike[i] = maps.Equal(first, answers(i%2 == 1)) })
	}
	group.Wait()
	if alike != [4]bool{true, true, true, true} {
		t.Error("answers differ:", alike)
	}
}

func wantArgumentsStay(t *testing.T, one []oneText, two []twoTexts, a, b string) {
	t.Helper()
	keptA, keptB := strings.Clone(a), strings.Clone(b)
	for _, f := range two {
		f.call(a, b)
		if a != keptA || b != keptB {
			t.Error(f.name, "changed an argument")
		}
	}
	for _, f := range one {
		f.call(a)
		if a != keptA {
			t.Error(f.name, "changed its argument")
		}
	}
}
