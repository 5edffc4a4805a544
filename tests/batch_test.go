package tests

import (
	"encoding/binary"
	"fmt"
	"slices"
	"strings"
	"testing"

	"loop.example/g00254/impl"
)

func otherBatch(x impl.Batch) []byte {
	length := 0
	if len(x.Items) > 0 {
		length = len(x.Items[0])
	}
	b := binary.BigEndian.AppendUint32(nil, uint32(x.Round))
	b = append(b, byte(x.Layer), byte(len(x.Items)))
	b = binary.BigEndian.AppendUint16(b, uint16(length))
	return append(b, strings.Join(x.Items, "")...)
}

func otherReadBatch(b []byte) (impl.Batch, bool) {
	if len(b) < 8 {
		return impl.Batch{}, false
	}
	x := impl.Batch{Round: int(binary.BigEndian.Uint32(b)), Layer: int(b[4])}
	count, length := int(b[5]), int(binary.BigEndian.Uint16(b[6:]))
	if x.Round > 1000000 || count > 64 || length > 400 || len(b) != 8+count*length || count == 0 && length != 0 {
		return impl.Batch{}, false
	}
	for i := range count {
		x.Items = append(x.Items, string(b[8+i*length:8+(i+1)*length]))
	}
	return x, true
}

func rightBatch(x impl.Batch) bool {
	if !within(x.Round, 1000000) || !within(x.Layer, 255) || len(x.Items) > 64 {
		return false
	}
	return !slices.ContainsFunc(x.Items, func(item string) bool { return len(item) != len(x.Items[0]) || len(item) > 400 })
}

func sameBatch(x, y impl.Batch) bool {
	return x.Round == y.Round && x.Layer == y.Layer && slices.Equal(x.Items, y.Items)
}

// someItems all differ from each other, if they have any bytes to do so.
func someItems(count, size int) []string {
	var out []string
	for i := range count {
		out = append(out, string(append([]byte{byte(i)}, someBytes(size)...)[:size]))
	}
	return out
}

func edgeLayers() []int { return []int{-1, 0, 255, 256} }

func edgeBatches() []impl.Batch {
	var out []impl.Batch
	for _, count := range []int{0, 1, 64, 65} {
		for _, size := range []int{0, 1, 400, 401} {
			items := someItems(count, size)
			for _, round := range edgeRounds() {
				for _, layer := range edgeLayers() {
					out = append(out, impl.Batch{Round: round, Layer: layer, Items: items})
				}
			}
		}
	}
	return out
}

// wrongBatches have a round or a layer that is far from right, or too much.
func wrongBatches() []impl.Batch {
	var out []impl.Batch
	for _, n := range farNumbers() {
		for _, items := range [][]string{nil, {""}, {"abc", "def"}} {
			out = append(out, impl.Batch{Round: n, Items: items}, impl.Batch{Layer: n, Items: items})
		}
	}
	for _, count := range []int{65, 66, 128, 255, 256, 257, 320, impl.MaxList, impl.MaxList + 1} {
		out = append(out, impl.Batch{Items: make([]string, count)}, impl.Batch{Items: someItems(count, 2)})
	}
	for _, size := range []int{401, 402, 656, 65535, 65536, 65537, 65936, impl.MaxText + 1} {
		out = append(out, impl.Batch{Items: []string{noughts(size)}}, impl.Batch{Items: []string{noughts(size), ones(size)}})
	}
	return append(out, unevenBatches()...)
}

// unevenBatches have one item, at any place, that is longer or shorter than the others.
func unevenBatches() []impl.Batch {
	var out []impl.Batch
	for _, size := range []int{0, 1, 2, 399, 400} {
		for _, count := range []int{2, 3, 64} {
			for _, other := range []int{0, 1, size - 1, size + 1, 401} {
				for _, at := range []int{0, 1, count / 2, count - 1} {
					if other >= 0 && other != size {
						items := someItems(count, size)
						items[at] = noughts(other)
						out = append(out, impl.Batch{Round: 5, Layer: 6, Items: items})
					}
				}
			}
		}
	}
	return append(out, impl.Batch{Items: []string{"", "a"}}, impl.Batch{Items: []string{"ab", "", "a"}})
}

func rightBatches() []impl.Batch {
	var out []impl.Batch
	for _, x := range edgeBatches() {
		if rightBatch(x) {
			out = append(out, x)
		}
	}
	for count := range 65 {
		for _, size := range []int{0, 1, 2, 80, 255, 256, 399} {
			out = append(out, impl.Batch{Round: 1000*count + size, Layer: 2 * count, Items: someItems(count, size)})
		}
	}
	for size := range 401 {
		out = append(out, impl.Batch{Round: size, Layer: size % 256, Items: []string{noughts(size), ones(size), noughts(size)}})
	}
	return out
}

func TestP6BatchBytesWrittenOut(t *testing.T) {
	for _, x := range []struct {
		batch impl.Batch
		want  string
	}{
		{impl.Batch{Round: 1000000, Layer: 255, Items: []string{"ab\x00", "\x00de"}}, "\x00\x0f\x42\x40\xff\x02\x00\x03ab\x00\x00de"},
		{impl.Batch{Round: 258, Layer: 1, Items: []string{ones(258)}}, "\x00\x00\x01\x02\x01\x01\x01\x02" + ones(258)},
		{impl.Batch{Round: 1, Layer: 2, Items: []string{"", "", ""}}, "\x00\x00\x00\x01\x02\x03\x00\x00"},
		{impl.Batch{Round: 1, Layer: 2}, "\x00\x00\x00\x01\x02\x00\x00\x00"},
		{impl.Batch{}, noughts(8)},
	} {
		got, code := impl.BatchBytes(x.batch)
		wantText(t, "BatchBytes of "+told(x.batch), string(got), code, x.want)
	}
}

func TestP6BatchBytes(t *testing.T) {
	for _, x := range slices.Concat(edgeBatches(), rightBatches(), wrongBatches()) {
		got, code := impl.BatchBytes(x)
		call := fmt.Sprint("BatchBytes of ", len(x.Items), " items, ", told(x))
		if rightBatch(x) {
			wantText(t, call, string(got), code, string(otherBatch(x)))
		} else {
			wantCode(t, call, string(got), code, impl.ErrBad)
		}
	}
}

func TestP6BatchesAreReadBack(t *testing.T) {
	for _, x := range rightBatches() {
		b, code := impl.BatchBytes(x)
		if code != impl.OK {
			t.Errorf("BatchBytes of %s: code %d", told(x), code)
		}
		if got, code := impl.ReadBatch(b); !sameBatch(got, x) || code != impl.OK {
			t.Errorf("ReadBatch: got %s, code %d; want %s", told(got), code, told(x))
		}
	}
}

// wantBatchRead holds ReadBatch against the other reader, and what is read against the bytes it has.
func wantBatchRead(t *testing.T, call string, b []byte) {
	t.Helper()
	want, right := otherReadBatch(b)
	wanted := impl.OK
	if !right {
		wanted = impl.ErrForm
	}
	got, code := impl.ReadBatch(b)
	if !sameBatch(got, want) || code != wanted {
		t.Errorf("ReadBatch, %s: got %s, code %d; want %s, code %d", call, told(got), code, told(want), wanted)
	}
	if code == impl.OK {
		written, code := impl.BatchBytes(got)
		wantText(t, "BatchBytes, "+call, string(written), code, string(b))
	}
}

func TestP6EachByteOfABatch(t *testing.T) {
	for _, x := range []impl.Batch{
		{}, {Items: []string{""}}, {Round: 1000000, Layer: 255, Items: someItems(3, 4)}, {Items: someItems(64, 0)},
		{Layer: 3, Items: someItems(2, 256)}, {Items: someItems(12, 1)}, {Items: []string{ones(12)}},
	} {
		for place := range min(len(otherBatch(x)), 12) {
			for c := range 256 {
				b := otherBatch(x)
				b[place] = byte(c)
				wantBatchRead(t, fmt.Sprint(c, " at ", place, " of ", told(x)), b)
			}
		}
	}
}

func wantNoBatch(t *testing.T, call string, b []byte, want int) {
	t.Helper()
	if got, code := impl.ReadBatch(b); !sameBatch(got, impl.Batch{}) || code != want {
		t.Errorf("ReadBatch, %s: got %s, code %d; want nothing, code %d", call, told(got), code, want)
	}
}

// TestP6BatchesWithMoreOrFewerBytes cuts batches off everywhere, and lengthens them.
func TestP6BatchesWithMoreOrFewerBytes(t *testing.T) {
	for _, x := range []impl.Batch{
		{}, {Round: 7, Layer: 8}, {Items: []string{"", ""}}, {Items: []string{"a"}}, {Round: 9, Items: someItems(3, 5)}, {Items: someItems(64, 400)},
	} {
		whole := otherBatch(x)
		for n := range whole {
			wantNoBatch(t, fmt.Sprintf("%d of %d bytes", n, len(whole)), whole[:n], impl.ErrForm)
		}
		for _, n := range []int{1, 2, 5, 8, 400, impl.MaxText - len(whole)} {
			for _, behind := range []string{noughts(n), ones(n)} {
				wantNoBatch(t, fmt.Sprintf("%d bytes behind %d", n, len(whole)), append(slices.Clone(whole), behind...), impl.ErrForm)
			}
		}
	}
}

func batchHead(round uint32, layer, count byte, size uint16) []byte {
	b := append(binary.BigEndian.AppendUint32(nil, round), layer, count)
	return binary.BigEndian.AppendUint16(b, size)
}

// TestP6HeadsOfBatches: each head with just as many bytes behind it as it tells, one fewer and one more.
func TestP6HeadsOfBatches(t *testing.T) {
	for count := range 256 {
		for _, size := range []int{0, 1, 2, 255, 256, 257, 399, 400, 401, 402, 512, 65535} {
			head := batchHead(3, 4, byte(count), uint16(size))
			for _, behind := range []int{count*size - 1, count * size, count*size + 1} {
				if behind >= 0 && len(head)+behind <= impl.MaxText {
					b := append(slices.Clone(head), make([]byte, behind)...)
					wantBatchRead(t, fmt.Sprint(count, " items of ", size, " bytes, ", behind, " behind"), b)
				}
			}
		}
	}
}

func TestP6WrongFieldsOfABatch(t *testing.T) {
	for _, size := range []uint16{1, 2, 255, 256, 400, 401, impl.MaxText - 8} {
		head := batchHead(0, 0, 0, size)
		wantNoBatch(t, fmt.Sprint("no items of ", size, " bytes"), head, impl.ErrForm)
		wantNoBatch(t, fmt.Sprint("no items of ", size, " bytes, one behind"), append(head, make([]byte, size)...), impl.ErrForm)
	}
	for _, count := range []byte{1, 2, 64} {
		wantNoBatch(t, fmt.Sprint(count, " items of 401 bytes"), append(batchHead(0, 0, count, 401), make([]byte, 401*int(count))...), impl.ErrForm)
	}
	for _, size := range []uint16{0, 1, 2, 400} {
		for _, count := range []byte{65, 66, 128, 255} {
			call := fmt.Sprint(count, " items of ", size, " bytes")
			if b := append(batchHead(0, 0, count, size), make([]byte, int(count)*int(size))...); len(b) <= impl.MaxText {
				wantNoBatch(t, call, b, impl.ErrForm)
			}
			wantNoBatch(t, call+" without them", batchHead(0, 0, count, size), impl.ErrForm)
		}
	}
	for _, round := range []uint32{1000001, 1000002, 1 << 20, 1 << 24, 1 << 31, 1<<32 - 1} {
		wantNoBatch(t, fmt.Sprint("round ", round), batchHead(round, 0, 0, 0), impl.ErrForm)
		wantNoBatch(t, fmt.Sprint("round ", round), append(batchHead(round, 0, 1, 1), 'a'), impl.ErrForm)
	}
}
