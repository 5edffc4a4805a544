package tests

import (
	"bytes"
	"fmt"
	"slices"
	"testing"

	"loop.example/g00254/impl"
)

// toldUnlessZero is the empty text of a zero answer, so that what reads structs can stand among calls that answer texts.
func toldUnlessZero(zero bool, value any) string {
	if zero {
		return ""
	}
	return fmt.Sprintf("%#v", value)
}

func readCalls() []bytesCall {
	return []bytesCall{
		{"ReadMessage", 1, func(x [][]byte, n int) (string, int) {
			m, code := impl.ReadMessage(x[0])
			return toldUnlessZero(m == impl.Message{}, m), code
		}},
		{"ReadBatch", 1, func(x [][]byte, n int) (string, int) {
			b, code := impl.ReadBatch(x[0])
			return toldUnlessZero(sameBatch(b, impl.Batch{}), b), code
		}},
	}
}

// pairCalls has the round as the number of a call; PairKey's side is the round's last bit, if the round is right.
func pairCalls() []bytesCall {
	return []bytesCall{
		{"DropId", 1, func(x [][]byte, n int) (string, int) { return impl.DropId(string(x[0]), n) }},
		{"PairKey", 1, func(x [][]byte, n int) (string, int) { return impl.PairKey(string(x[0]), n, n%2) }},
	}
}

func wireCalls() []bytesCall { return append(readCalls(), pairCalls()...) }

// wireLists are right for one of the calls at least, or wrong for all.
func wireLists() [][]byte {
	return [][]byte{
		otherMessage(someMessage()), make([]byte, 64), make([]byte, 63), make([]byte, 65), otherBatch(impl.Batch{}),
		otherBatch(impl.Batch{Round: 1, Layer: 2, Items: someItems(3, 5)}), otherBatch(impl.Batch{Items: someItems(64, 400)}),
		otherBatch(impl.Batch{Items: someItems(4, 0)}), batchHead(0, 0, 255, 65535), someBytes(31), someBytes(32), someBytes(33),
		nil, {0}, someBytes(impl.MaxText), someBytes(impl.MaxText + 1),
	}
}

func TestP1WireAtMaxText(t *testing.T) {
	for _, fill := range []string{noughts(impl.MaxText), ones(impl.MaxText)} {
		for _, f := range readCalls() {
			got, code := f.call([][]byte{[]byte(fill)}, 0)
			wantCode(t, f.name+" of MaxText bytes", got, code, impl.ErrForm)
		}
		for _, f := range pairCalls() {
			for _, round := range []int{-1, 0, 1, 1000000, 1000001} {
				got, code := f.call([][]byte{[]byte(fill)}, round)
				wantCode(t, fmt.Sprint(f.name, " of MaxText bytes, ", round), got, code, impl.ErrBad)
			}
		}
	}
}

func TestP1WireLongFirst(t *testing.T) {
	for _, long := range append(longTexts(), string(otherMessage(someMessage()))+noughts(impl.MaxText), ones(impl.MaxText+1)) {
		for _, f := range wireCalls() {
			for _, round := range append(wrongRounds(), pairRounds()...) {
				got, code := f.call([][]byte{[]byte(long)}, round)
				wantCode(t, fmt.Sprint(f.name, " of ", len(long), " bytes, ", round), got, code, impl.ErrLong)
			}
		}
		for _, side := range wrongSides() {
			got, code := impl.PairKey(long, 0, side)
			wantCode(t, fmt.Sprint("PairKey of ", len(long), " bytes, side ", side), got, code, impl.ErrLong)
		}
	}
}

// TestP1WireOfLongFields: what lies within structs is not bounded by MaxText and MaxList, but by the chapter.
func TestP1WireOfLongFields(t *testing.T) {
	for _, long := range longTexts() {
		for _, m := range []impl.Message{{Drop: long}, {Drop: noughts(8), Body: long}, {Round: -1, Drop: long, Body: long}} {
			if impl.MessageOK(m) {
				t.Error("MessageOK of a long text")
			}
			got, code := impl.MessageBytes(m)
			wantCode(t, "MessageBytes of a long text", string(got), code, impl.ErrBad)
		}
		for _, items := range [][]string{{long}, {long, long}, {"", long}} {
			got, code := impl.BatchBytes(impl.Batch{Items: items})
			wantCode(t, "BatchBytes of a long item", string(got), code, impl.ErrBad)
		}
	}
	for _, n := range []int{impl.MaxList, impl.MaxList + 1, 2 * impl.MaxList} {
		got, code := impl.BatchBytes(impl.Batch{Items: make([]string, n)})
		wantCode(t, fmt.Sprint("BatchBytes of ", n, " items"), string(got), code, impl.ErrBad)
	}
}

func TestP1WireWritesIntoNoArgument(t *testing.T) {
	for _, f := range wireCalls() {
		for _, b := range wireLists() {
			for _, round := range []int{-1, 0, 1, 1000001} {
				wantNoWriting(t, f, [][]byte{b}, round)
			}
		}
	}
}

func TestP1WireReadsNothingBehind(t *testing.T) {
	for _, f := range wireCalls() {
		for _, b := range wireLists() {
			wantNothingReadBehind(t, f, [][]byte{b}, 1)
		}
	}
	// what would make a whole one of it lies behind the end
	for _, whole := range [][]byte{otherMessage(someMessage()), otherBatch(impl.Batch{Items: someItems(3, 5)})} {
		for n := range whole {
			wantNoMessage(t, fmt.Sprint(n, " bytes with others behind"), whole[:n], impl.ErrForm)
			wantNoBatch(t, fmt.Sprint(n, " bytes with others behind"), whole[:n], impl.ErrForm)
		}
	}
}

func TestP1WireOfNilAndEmpty(t *testing.T) {
	for _, f := range wireCalls() {
		for _, round := range []int{-1, 0, 1, 1000001} {
			wantNilAsEmpty(t, f, [][]byte{nil}, round)
		}
	}
	for _, empty := range [][]byte{nil, {}, make([]byte, 0, 100)} {
		wantNoMessage(t, "nothing", empty, impl.ErrForm)
		wantNoBatch(t, "nothing", empty, impl.ErrForm)
	}
	for _, empty := range [][]string{nil, {}, make([]string, 0, 100)} {
		got, code := impl.BatchBytes(impl.Batch{Round: 3, Layer: 4, Items: empty})
		wantText(t, "BatchBytes without items", string(got), code, "\x00\x00\x00\x03\x04\x00\x00\x00")
		got, code = impl.BatchBytes(impl.Batch{Round: -1, Layer: 4, Items: empty})
		wantCode(t, "BatchBytes without items or a round", string(got), code, impl.ErrBad)
	}
}

// guardedItems lie in the middle of a list whose other items no call has to do with.
func guardedItems(items []string) (inside, whole []string) {
	whole = slices.Concat([]string{"ahead", ""}, items, slices.Repeat([]string{"behind"}, 70))
	return whole[2 : 2+len(items)], whole
}

func TestP1BatchBytesWritesIntoNoItems(t *testing.T) {
	for _, items := range [][]string{nil, {""}, {"abc", "def"}, {"abc", "de"}, someItems(64, 400), someItems(65, 1), someItems(3, 401)} {
		inside, whole := guardedItems(items)
		impl.BatchBytes(impl.Batch{Round: 1, Layer: 2, Items: inside})
		if _, want := guardedItems(items); !slices.Equal(whole, want) {
			t.Errorf("BatchBytes of %d items wrote into them, or around them", len(items))
		}
	}
}

// TestP1BytesAreNewMemory: what is written into one answer is not to be seen in another one.
func TestP1BytesAreNewMemory(t *testing.T) {
	m, x := someMessage(), impl.Batch{Round: 1, Layer: 2, Items: []string{"abc", "def"}}
	for _, f := range []struct {
		name string
		call func() ([]byte, int)
		want []byte
	}{
		{"MessageBytes", func() ([]byte, int) { return impl.MessageBytes(m) }, otherMessage(m)},
		{"BatchBytes", func() ([]byte, int) { return impl.BatchBytes(x) }, otherBatch(x)},
	} {
		first, _ := f.call()
		second, _ := f.call()
		overwrite(first)
		third, code := f.call()
		if !bytes.Equal(second, f.want) || !bytes.Equal(third, f.want) || code != impl.OK {
			t.Error(f.name, "hands out one memory twice")
		}
	}
	if m != someMessage() || !slices.Equal(x.Items, []string{"abc", "def"}) {
		t.Error("an argument was changed through an answer")
	}
}

// TestP1ReadItemsAreNewMemory: neither the bytes that were read nor another answer's items lead into an answer.
func TestP1ReadItemsAreNewMemory(t *testing.T) {
	want := impl.Batch{Round: 1, Layer: 2, Items: someItems(5, 7)}
	b := otherBatch(want)
	first, _ := impl.ReadBatch(b)
	second, _ := impl.ReadBatch(b)
	clear(first.Items[:cap(first.Items)])
	m := otherMessage(someMessage())
	read, code := impl.ReadMessage(m)
	overwrite(b)
	overwrite(m)
	if !sameBatch(second, want) {
		t.Error("ReadBatch's answer was changed by another one or by its argument")
	}
	if read != someMessage() || code != impl.OK {
		t.Error("ReadMessage's answer was changed by its argument")
	}
}

// wireAnswers tells what all functions of the chapter answer, in one order or the other.
func wireAnswers(backwards bool) map[string]string {
	lists, rounds := wireLists(), []int{-1, 0, 1, 1000000, 1000001}
	messages := append(rightMessages()[:40], wrongMessages()...)
	batches := []impl.Batch{{}, {Items: someItems(3, 5)}, {Items: someItems(64, 400)}, {Items: someItems(65, 1)}, {Layer: 256}, {Items: []string{"", "a"}}}
	if backwards {
		slices.Reverse(lists)
		slices.Reverse(rounds)
		slices.Reverse(messages)
		slices.Reverse(batches)
	}
	out := map[string]string{}
	for _, b := range lists {
		for _, round := range rounds {
			for _, f := range wireCalls() {
				out[fmt.Sprintf("%s %x %d", f.name, b, round)] = fmt.Sprintln(f.call([][]byte{b}, round))
			}
		}
	}
	for _, m := range messages {
		b, code := impl.MessageBytes(m)
		out[fmt.Sprint("message ", m)] = fmt.Sprintln(impl.MessageOK(m), b, code)
	}
	for _, x := range batches {
		b, code := impl.BatchBytes(x)
		out[fmt.Sprint("batch ", x)] = fmt.Sprintln(b, code)
	}
	return out
}

func TestP1WireAlikeArgumentsAlikeAnswers(t *testing.T) { wantAlike(t, wireAnswers) }

func TestP1WireCallsBesideEachOther(t *testing.T) { wantAlikeBeside(t, wireAnswers) }
