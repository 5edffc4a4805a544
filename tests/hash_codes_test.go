package tests

import (
	"fmt"
	"math"
	"slices"
	"testing"

	"loop.example/g00254/impl"
)

func drawCalls() []bytesCall {
	return []bytesCall{
		{"HkdfExpand", 2, func(x [][]byte, n int) (string, int) { return impl.HkdfExpand(string(x[0]), x[1], n) }},
		{"Hkdf", 3, func(x [][]byte, n int) (string, int) { return impl.Hkdf(x[0], x[1], x[2], n) }},
	}
}

// codedCalls leaves out Hash, which answers no code.
func codedCalls() []bytesCall {
	return append(drawCalls(),
		bytesCall{"Hmac", 2, func(x [][]byte, n int) (string, int) { return impl.Hmac(x[0], x[1]) }},
		bytesCall{"HkdfExtract", 2, func(x [][]byte, n int) (string, int) { return impl.HkdfExtract(x[0], x[1]) }},
		bytesCall{"HexText", 1, func(x [][]byte, n int) (string, int) { return impl.HexText(string(x[0])) }})
}

func hashCalls() []bytesCall {
	return append(codedCalls(),
		bytesCall{"Hash", 1, func(x [][]byte, n int) (string, int) { return impl.Hash(x[0]), impl.OK }})
}

func wrongDraws() []int {
	return []int{-1, -2, -32, -8160, 8161, 8162, 8192, 65536, 1 << 32, -(1 << 32), 1<<32 + 1, math.MinInt, math.MaxInt}
}

func rightDraws() []int { return []int{0, 1, 31, 32, 33, 8159, 8160} }

func TestP1HashAtMaxText(t *testing.T) {
	for _, n := range []int{impl.MaxText - 1, impl.MaxText} {
		wantText(t, fmt.Sprint("Hash of ", n, " bytes"), impl.Hash(someBytes(n)), impl.OK, libraryHash(someBytes(n)))
	}
	for _, n := range []int{impl.MaxText + 1, impl.MaxText + 64, 2 * impl.MaxText} {
		if got := impl.Hash(someBytes(n)); got != "" {
			t.Errorf("Hash of %d bytes: %x", n, got)
		}
	}
}

func TestP1DrawsOutOfBounds(t *testing.T) {
	for _, f := range drawCalls() {
		for _, n := range wrongDraws() {
			got, code := f.call(shortLists(f.places), n)
			wantCode(t, fmt.Sprint(f.name, ", ", n), got, code, impl.ErrRange)
			got, code = f.call(make([][]byte, f.places), n)
			wantCode(t, fmt.Sprint(f.name, " of nothing, ", n), got, code, impl.ErrRange)
		}
	}
}

func TestP1DrawsWithinBounds(t *testing.T) {
	key, info := string(someBytes(32)), someBytes(7)
	for _, n := range rightDraws() {
		got, code := impl.HkdfExpand(key, info, n)
		wantText(t, fmt.Sprint("HkdfExpand, ", n), got, code, libraryExpand(t, key, info, n))
		_, want := libraryHkdf(t, someBytes(5), someBytes(6), info, n)
		got, code = impl.Hkdf(someBytes(5), someBytes(6), info, n)
		wantText(t, fmt.Sprint("Hkdf, ", n), got, code, want)
	}
}

// TestP1HashesAtMaxTextInEachPlace: what is hashed inside is longer than MaxText then; the answer is right all the same.
func TestP1HashesAtMaxTextInEachPlace(t *testing.T) {
	most := someBytes(impl.MaxText)
	got, code := impl.Hmac(most, most)
	wantText(t, "Hmac", got, code, libraryHmac(most, most))
	got, code = impl.HkdfExtract(most, most)
	wantText(t, "HkdfExtract", got, code, libraryHmac(most, most))
	for _, n := range []int{0, 1, 32, 33, 65, 8160} {
		got, code = impl.HkdfExpand(string(most), most, n)
		wantText(t, fmt.Sprint("HkdfExpand, ", n), got, code, libraryExpand(t, string(most), most, n))
		_, want := libraryHkdf(t, most, most, most, n)
		got, code = impl.Hkdf(most, most, most, n)
		wantText(t, fmt.Sprint("Hkdf, ", n), got, code, want)
	}
	for _, f := range codedCalls() {
		for place := range f.places {
			list := shortLists(f.places)
			list[place] = most
			got, code = f.call(list, 40)
			if code != impl.OK || got == "" {
				t.Errorf("%s with MaxText bytes at %d: %d bytes, code %d", f.name, place, len(got), code)
			}
		}
	}
}

func TestP1HashesLongFirst(t *testing.T) {
	for _, f := range codedCalls() {
		for place := range f.places {
			for _, size := range []int{impl.MaxText + 1, impl.MaxText + 64, 2 * impl.MaxText} {
				for _, n := range slices.Concat(wrongDraws(), rightDraws()) {
					for _, list := range [][][]byte{shortLists(f.places), make([][]byte, f.places)} {
						list[place] = someBytes(size)
						got, code := f.call(list, n)
						wantCode(t, fmt.Sprint(f.name, " with ", size, " bytes at ", place, ", ", n), got, code, impl.ErrLong)
					}
				}
			}
		}
		all := make([][]byte, f.places)
		for i := range all {
			all[i] = someBytes(impl.MaxText + 1)
		}
		got, code := f.call(all, -1)
		wantCode(t, f.name+" with all too long", got, code, impl.ErrLong)
	}
}

func TestP1HashesWriteIntoNoArgument(t *testing.T) {
	for _, f := range hashCalls() {
		for _, size := range []int{0, 1, 32, 55, 56, 63, 64, 65, 119, 120, 200, impl.MaxText, impl.MaxText + 1} {
			for _, n := range []int{-1, 0, 1, 33, 100, 8161} {
				wantNoWriting(t, f, listsOf(f.places, size), n)
			}
		}
	}
}

func TestP1HashesReadNothingBehind(t *testing.T) {
	for _, f := range hashCalls() {
		for _, size := range []int{0, 1, 32, 55, 56, 63, 64, 65, 119, 120, 200} {
			wantNothingReadBehind(t, f, listsOf(f.places, size), 70)
		}
	}
}

// TestP1HashesOfOneListInEachPlace: arguments may share their memory.
func TestP1HashesOfOneListInEachPlace(t *testing.T) {
	for _, f := range hashCalls() {
		for _, size := range []int{0, 40, 64, 65, 100} {
			apart := listsOf(f.places, size)
			shared := slices.Repeat([][]byte{someBytes(size)}, f.places)
			want, wantedCode := f.call(apart, 70)
			if got, code := f.call(shared, 70); got != want || code != wantedCode {
				t.Errorf("%s of one list of %d bytes: %x, code %d; want %x, code %d", f.name, size, got, code, want, wantedCode)
			}
		}
	}
}

func TestP1HashesOfNilAndEmpty(t *testing.T) {
	for _, f := range hashCalls() {
		for _, n := range []int{-1, 0, 1, 100, 8161} {
			wantNilAsEmpty(t, f, shortLists(f.places), n)
		}
	}
}

// hashAnswers tells what all functions of the chapter answer, in one order or the other.
func hashAnswers(backwards bool) map[string]string {
	sizes := []int{0, 1, 32, 55, 56, 63, 64, 65, 119, 120, 128, 200, impl.MaxText, impl.MaxText + 1}
	if backwards {
		slices.Reverse(sizes)
	}
	out := map[string]string{}
	for _, size := range sizes {
		for _, f := range hashCalls() {
			for place := range f.places {
				for _, n := range []int{-1, 0, 33, 100, 8161} {
					list := shortLists(f.places)
					list[place] = someBytes(size)
					out[fmt.Sprint(f.name, size, place, n)] = fmt.Sprintln(f.call(list, n))
				}
			}
		}
	}
	return out
}

func TestP1HashAlikeArgumentsAlikeAnswers(t *testing.T) { wantAlike(t, hashAnswers) }

func TestP1HashCallsBesideEachOther(t *testing.T) { wantAlikeBeside(t, hashAnswers) }
