package tests

import (
	"bytes"
	"fmt"
	"math"
	"slices"
	"testing"

	"loop.example/g00254/impl"
)

func streamBlockCall() bytesCall {
	return bytesCall{"StreamBlock", 2, func(x [][]byte, n int) (string, int) { return impl.StreamBlock(string(x[0]), string(x[1]), n) }}
}

func tagCall() bytesCall {
	return bytesCall{"OneTimeTag", 2, func(x [][]byte, n int) (string, int) { return impl.OneTimeTag(string(x[0]), x[1]) }}
}

// listCall answers a list of bytes; it stands among the others by asText.
type listCall struct {
	name   string
	places int
	call   func(list [][]byte, n int) ([]byte, int)
}

func (f listCall) asText() bytesCall {
	return bytesCall{f.name, f.places, func(x [][]byte, n int) (string, int) {
		b, code := f.call(x, n)
		return string(b), code
	}}
}

func listCalls() []listCall {
	return []listCall{
		{"StreamXor", 3, func(x [][]byte, n int) ([]byte, int) { return impl.StreamXor(string(x[0]), string(x[1]), n, x[2]) }},
		{"SealBox", 4, func(x [][]byte, n int) ([]byte, int) { return impl.SealBox(string(x[0]), string(x[1]), x[2], x[3]) }},
		{"OpenBox", 4, func(x [][]byte, n int) ([]byte, int) { return impl.OpenBox(string(x[0]), string(x[1]), x[2], x[3]) }},
	}
}

// streamCalls leaves out QuarterRound, which takes numbers alone. The number of a call is its counter, if it has one.
func streamCalls() []bytesCall {
	out := []bytesCall{streamBlockCall(), tagCall()}
	for _, f := range listCalls() {
		out = append(out, f.asText())
	}
	return out
}

// streamLists are right arguments of a call, the last of them of n bytes (of a box n are sealed), but of StreamBlock.
func streamLists(name string, n int) [][]byte {
	key, nonce, extra, b := someBytes(32), someBytes(12), someBytes(21), someBytes(n)
	switch name {
	case "StreamBlock":
		return [][]byte{key, nonce}
	case "StreamXor":
		return [][]byte{key, nonce, b}
	case "OneTimeTag":
		return [][]byte{key, b}
	case "OpenBox":
		return [][]byte{key, nonce, extra, otherBox(string(key), string(nonce), extra, b)}
	}
	return [][]byte{key, nonce, extra, b}
}

// badLists are the right arguments but for the length of a key or a nonce.
func badLists(name string, n int) [][][]byte {
	var out [][][]byte
	for _, size := range []int{0, 1, 11, 12, 13, 16, 31, 32, 33, 44, 64, impl.MaxText} {
		if size != 32 {
			list := streamLists(name, n)
			list[0] = someBytes(size)
			out = append(out, list)
		}
		if size != 12 && name != "OneTimeTag" {
			list := streamLists(name, n)
			list[1] = someBytes(size)
			out = append(out, list)
		}
	}
	return out
}

func wrongCounters() []int {
	return []int{-1, -2, -64, -lastCounter, -lastCounter - 1, lastCounter + 1, lastCounter + 2, 1 << 33, 1<<33 + 1, 1 << 40, math.MinInt, math.MaxInt}
}

func TestP1BlockCounters(t *testing.T) {
	f, list := streamBlockCall(), streamLists("StreamBlock", 0)
	for _, n := range wrongCounters() {
		got, code := f.call(list, n)
		wantCode(t, fmt.Sprint("StreamBlock, ", n), got, code, impl.ErrRange)
	}
	for _, n := range []int{0, 1, lastFirst, lastFirst + 1, lastCounter - 1, lastCounter} {
		got, code := f.call(list, n)
		wantText(t, fmt.Sprint("StreamBlock, ", n), got, code, otherBlock(string(list[0]), string(list[1]), uint32(n)))
	}
}

// TestP1XorCounters: the bound does not hang on how long b is.
func TestP1XorCounters(t *testing.T) {
	key, nonce := someKey(), someNonce()
	for _, size := range []int{0, 1, 64, 65, impl.MaxText} {
		b := someBytes(size)
		for _, n := range append(wrongCounters(), lastFirst+1, lastFirst+2, lastCounter-1, lastCounter) {
			got, code := impl.StreamXor(key, nonce, n, b)
			wantCode(t, fmt.Sprint("StreamXor of ", size, " bytes, ", n), string(got), code, impl.ErrRange)
		}
		for _, n := range []int{0, 1, lastFirst - 1, lastFirst} {
			got, code := impl.StreamXor(key, nonce, n, b)
			wantText(t, fmt.Sprint("StreamXor of ", size, " bytes, ", n), string(got), code, string(otherXor(key, nonce, n, b)))
		}
	}
}

// TestP1StreamBadAheadOfOthers: ErrBad comes ahead of ErrRange, ErrForm and ErrSealed.
func TestP1StreamBadAheadOfOthers(t *testing.T) {
	for _, f := range streamCalls() {
		for _, size := range []int{0, 1, 100} {
			for _, list := range badLists(f.name, size) {
				for _, n := range append(wrongCounters(), 0, 1, lastFirst, lastFirst+1, lastCounter) {
					got, code := f.call(list, n)
					call := fmt.Sprint(f.name, " by ", len(list[0]), ", ", len(list[1]), " bytes, ", n)
					wantCode(t, call, got, code, impl.ErrBad)
				}
			}
		}
	}
	for _, list := range badLists("OpenBox", 0) {
		for n := range 20 {
			got, code := impl.OpenBox(string(list[0]), string(list[1]), nil, someBytes(n))
			wantCode(t, fmt.Sprint("OpenBox of ", n, " bytes by ", len(list[0]), ", ", len(list[1])), string(got), code, impl.ErrBad)
		}
	}
}

// TestP1StreamAtMaxText: what is bytes may have MaxText of them, b of SealBox 16 fewer.
func TestP1StreamAtMaxText(t *testing.T) {
	key, nonce, most := someKey(), someNonce(), someBytes(impl.MaxText)
	xored, code := impl.StreamXor(key, nonce, 3, most)
	wantText(t, "StreamXor", string(xored), code, string(otherXor(key, nonce, 3, most)))
	tag, code := impl.OneTimeTag(key, most)
	wantText(t, "OneTimeTag", tag, code, otherTag(key, most))
	whole := otherBox(key, nonce, most, most[16:])
	box, code := impl.SealBox(key, nonce, most, most[16:])
	wantText(t, "SealBox", string(box), code, string(whole))
	got, code := impl.OpenBox(key, nonce, most, whole)
	wantText(t, "OpenBox", string(got), code, string(most[16:]))
	wantSealed(t, "of MaxText bytes", key, nonce, most, most)
}

func TestP1BoxesOfTooManyBytes(t *testing.T) {
	for _, size := range []int{impl.MaxText - 15, impl.MaxText - 1, impl.MaxText, impl.MaxText + 1, 2 * impl.MaxText} {
		for _, list := range append(badLists("SealBox", size), streamLists("SealBox", size)) {
			got, code := impl.SealBox(string(list[0]), string(list[1]), list[2], list[3])
			call := fmt.Sprint("SealBox of ", size, " bytes by ", len(list[0]), ", ", len(list[1]))
			wantCode(t, call, string(got), code, impl.ErrLong)
		}
	}
	for _, size := range []int{impl.MaxText - 15, impl.MaxText} {
		list := streamLists("OpenBox", size)
		got, code := impl.OpenBox(string(list[0]), string(list[1]), list[2], list[3])
		wantCode(t, fmt.Sprint("OpenBox of ", len(list[3]), " bytes"), string(got), code, impl.ErrLong)
	}
}

func TestP1StreamLongFirst(t *testing.T) {
	for _, f := range streamCalls() {
		others := append(badLists(f.name, 5), streamLists(f.name, 5), make([][]byte, f.places))
		for _, size := range []int{impl.MaxText + 1, impl.MaxText + 64, 2 * impl.MaxText} {
			long := someBytes(size)
			for place := range f.places {
				for _, other := range others {
					list := slices.Clone(other)
					list[place] = long
					for _, n := range []int{0, 1, -1, lastCounter, lastCounter + 1} {
						got, code := f.call(list, n)
						wantCode(t, fmt.Sprint(f.name, " with ", size, " bytes at ", place, ", ", n), got, code, impl.ErrLong)
					}
				}
			}
			got, code := f.call(slices.Repeat([][]byte{long}, f.places), -1)
			wantCode(t, f.name+" with all too long", got, code, impl.ErrLong)
		}
	}
}

// p1Sizes are those at which a part, a block or a text ends.
func p1Sizes() []int {
	return []int{0, 1, 15, 16, 17, 31, 32, 33, 63, 64, 65, 128, 200, impl.MaxText - 16, impl.MaxText - 15, impl.MaxText, impl.MaxText + 1}
}

func TestP1StreamWritesIntoNoArgument(t *testing.T) {
	for _, f := range streamCalls() {
		for _, size := range p1Sizes() {
			for _, n := range []int{-1, 0, 1, lastFirst, lastCounter} {
				wantNoWriting(t, f, streamLists(f.name, size), n)
			}
		}
		for _, list := range badLists(f.name, 40) {
			wantNoWriting(t, f, list, 1)
		}
	}
	box := streamLists("OpenBox", 40)
	box[3][0] ^= 1
	for _, f := range listCalls() {
		wantNoWriting(t, f.asText(), box[:f.places], 1)
	}
}

func TestP1StreamReadsNothingBehind(t *testing.T) {
	for _, f := range streamCalls() {
		for _, size := range p1Sizes() {
			wantNothingReadBehind(t, f, streamLists(f.name, size), 1)
		}
		wantNothingReadBehind(t, f, listsOf(f.places, 15), 1)
	}
}

func TestP1StreamOfNilAndEmpty(t *testing.T) {
	for _, f := range streamCalls() {
		for _, n := range []int{-1, 0, 1, lastCounter + 1} {
			wantNilAsEmpty(t, f, streamLists(f.name, 40), n)
			wantNilAsEmpty(t, f, streamLists(f.name, 0), n)
		}
	}
	key, nonce := someKey(), someNonce()
	for _, empty := range [][]byte{nil, {}, make([]byte, 0, 64)} {
		got, code := impl.StreamXor(key, nonce, 1, empty)
		wantText(t, "StreamXor of nothing", string(got), code, "")
		box, code := impl.SealBox(key, nonce, empty, empty)
		wantText(t, "SealBox of nothing", string(box), code, string(otherBox(key, nonce, nil, nil)))
		got, code = impl.OpenBox(key, nonce, empty, box)
		wantText(t, "OpenBox of nothing", string(got), code, "")
	}
}

func overwrite(b []byte) {
	b = b[:cap(b)]
	for i := range b {
		b[i] ^= 0xff
	}
}

// TestP1StreamAnswersAreNewMemory writes into an answer and looks at the arguments, then the other way round; and no
// answer is written into by what is called later.
func TestP1StreamAnswersAreNewMemory(t *testing.T) {
	for _, f := range listCalls() {
		for _, size := range []int{0, 1, 16, 40, 64, 65, 500} {
			lists := streamLists(f.name, size)
			inside, wholes := make([][]byte, f.places), make([][]byte, f.places)
			for i, b := range lists {
				inside[i], wholes[i] = guarded(b)
			}
			got, code := f.call(inside, 1)
			want := string(got)
			again, againCode := f.call(inside, 1)
			overwrite(got)
			for i, b := range lists {
				if _, whole := guarded(b); !bytes.Equal(wholes[i], whole) {
					t.Errorf("%s of %d bytes shares memory with argument %d", f.name, size, i)
				}
			}
			for _, whole := range wholes {
				overwrite(whole)
			}
			if code != impl.OK || againCode != impl.OK || string(again) != want {
				t.Errorf("%s of %d bytes: an answer was changed by another one or by an argument", f.name, size)
			}
			third, code := f.call(lists, 1)
			wantText(t, f.name+" for the third time", string(third), code, want)
		}
	}
}

// TestP1StreamOfOneListInEachPlace: extra and b may be one list.
func TestP1StreamOfOneListInEachPlace(t *testing.T) {
	key, nonce := someKey(), someNonce()
	for _, size := range []int{0, 1, 16, 40, 65} {
		one := someBytes(size)
		box, code := impl.SealBox(key, nonce, one, one)
		wantText(t, fmt.Sprint("SealBox of one list of ", size, " bytes"), string(box), code, string(otherBox(key, nonce, one, one)))
		wantSealed(t, "of one list", key, nonce, box, box)
	}
}

// streamAnswers tells what all functions of the chapter answer, in one order or the other.
func streamAnswers(backwards bool) map[string]string {
	sizes, counters := p1Sizes(), []int{-1, 0, 1, lastFirst, lastFirst + 1, lastCounter, lastCounter + 1}
	if backwards {
		slices.Reverse(sizes)
		slices.Reverse(counters)
	}
	out := map[string]string{}
	for _, size := range sizes {
		for _, n := range counters {
			for _, f := range streamCalls() {
				out[fmt.Sprint(f.name, size, " ", n)] = fmt.Sprintln(f.call(streamLists(f.name, size), n))
			}
			a, b, c, d := impl.QuarterRound(n, size, n, -size)
			out[fmt.Sprint("QuarterRound", size, " ", n)] = fmt.Sprintln(a, b, c, d)
		}
	}
	return out
}

func TestP1StreamAlikeArgumentsAlikeAnswers(t *testing.T) { wantAlike(t, streamAnswers) }

func TestP1StreamCallsBesideEachOther(t *testing.T) { wantAlikeBeside(t, streamAnswers) }
