package tests

import (
	"fmt"
	"slices"
	"strings"
	"testing"

	"loop.example/g00254/impl"
)

func hashOf(parts ...string) string { return impl.Hash([]byte(strings.Join(parts, ""))) }

func otherLeaf(item string) string { return hashOf("\x00", item) }

func otherJoin(left, right string) string { return hashOf("\x01", left, right) }

// otherLevels builds the tree from below, level by level: neighbours are joined, and one that is left over goes up as it is.
func otherLevels(items []string) [][]string {
	var level []string
	for _, item := range items {
		level = append(level, otherLeaf(item))
	}
	levels := [][]string{level}
	for len(level) > 1 {
		var next []string
		for pair := range slices.Chunk(level, 2) {
			if len(pair) == 2 {
				next = append(next, otherJoin(pair[0], pair[1]))
			} else {
				next = append(next, pair[0])
			}
		}
		levels, level = append(levels, next), next
	}
	return levels
}

func otherRoot(items []string) string {
	if len(items) == 0 {
		return hashOf()
	}
	levels := otherLevels(items)
	return levels[len(levels)-1][0]
}

func otherProof(items []string, at int) []string {
	var proof []string
	for _, level := range otherLevels(items) {
		if beside := at ^ 1; beside < len(level) {
			proof = append(proof, level[beside])
		}
		at /= 2
	}
	return proof
}

// otherCheck is for roots, items and places that are right by themselves.
func otherCheck(root, item string, at, size int, proof []string) int {
	led := otherLeaf(item)
	for ; size > 1; at, size = at/2, (size+1)/2 {
		if at^1 >= size {
			continue
		}
		if len(proof) == 0 {
			return impl.ErrForm
		}
		if at%2 == 1 {
			led = otherJoin(proof[0], led)
		} else {
			led = otherJoin(led, proof[0])
		}
		proof = proof[1:]
	}
	if len(proof) > 0 {
		return impl.ErrForm
	}
	if led != root {
		return impl.ErrRoot
	}
	return impl.OK
}

// unevenItems have lengths from 0 to 400, and no two of them are alike but the empty ones.
func unevenItems(count int) []string {
	var out []string
	for i := range count {
		out = append(out, string(someBytes([]int{400, 0, 1, 2, 31, 32, 33, 64, 65, 399, 100 + i}[i%11])))
	}
	return out
}

func rightItems() [][]string {
	var out [][]string
	for count := range 65 {
		out = append(out, someItems(count, 5), unevenItems(count))
	}
	for _, size := range []int{0, 1, 2, 54, 55, 56, 63, 64, 65, 255, 256, 399, 400} {
		for _, count := range []int{1, 2, 3, 7, 64} {
			out = append(out, someItems(count, size))
		}
	}
	return append(out, []string{"alike", "alike", "alike"})
}

// wrongItems are too many, or one of them, at any place, is too long.
func wrongItems() [][]string {
	var out [][]string
	for _, count := range []int{65, 66, 127, 128, 129, 256, impl.MaxList} {
		out = append(out, make([]string, count), someItems(count, 3))
	}
	for _, size := range []int{401, 402, 656, impl.MaxText, impl.MaxText + 1} {
		for _, count := range []int{1, 2, 5, 64, 65} {
			for _, at := range []int{0, count / 2, count - 1} {
				items := someItems(count, 2)
				items[at] = noughts(size)
				out = append(out, items)
			}
		}
	}
	return out
}

func TestP7RootsWrittenOut(t *testing.T) {
	leaf, join := otherLeaf, otherJoin
	four := join(join(leaf("a"), leaf("b")), join(leaf("c"), leaf("d")))
	eight := join(four, join(join(leaf("e"), leaf("f")), join(leaf("g"), leaf("h"))))
	letters := []string{"a", "b", "c", "d", "e", "f", "g", "h", "i"}
	for n, want := range map[int]string{
		0: hashOf(),
		1: leaf("a"),
		2: join(leaf("a"), leaf("b")),
		3: join(join(leaf("a"), leaf("b")), leaf("c")),
		4: four,
		5: join(four, leaf("e")),
		6: join(four, join(leaf("e"), leaf("f"))),
		7: join(four, join(join(leaf("e"), leaf("f")), leaf("g"))),
		8: eight,
		9: join(eight, leaf("i")),
	} {
		got, code := impl.ItemRoot(letters[:n])
		wantText(t, fmt.Sprint("ItemRoot of ", n), got, code, want)
	}
	got, code := impl.ItemRoot([]string{""})
	wantText(t, "ItemRoot of an empty item", got, code, hashOf("\x00"))
	got, code = impl.ItemRoot(nil)
	wantText(t, "ItemRoot of nothing", got, code, unhex(t, "e3b0c44298fc1c149afbf4c8996fb92427ae41e4649b934ca495991b7852b855"))
}

func TestP7Roots(t *testing.T) {
	for _, items := range rightItems() {
		got, code := impl.ItemRoot(items)
		wantText(t, fmt.Sprint("ItemRoot of ", len(items), " items, ", told(items)), got, code, otherRoot(items))
	}
}

// TestP7RootsDiffer: of other items, or the same ones in another order, there is another root.
func TestP7RootsDiffer(t *testing.T) {
	seen := map[string]string{}
	for _, items := range [][]string{
		nil, {""}, {"", ""}, {"", "", ""}, {"a"}, {"a", ""}, {"", "a"}, {"ab"}, {"a", "b"}, {"b", "a"}, {"a", "b", "c"}, {"a", "bc"}, {"ab", "c"},
		{"a", "b", "c", "c"}, {"a", "b", "c", "d"}, {"c", "d", "a", "b"}, {otherLeaf("a") + otherLeaf("b")}, {otherLeaf("a"), otherLeaf("b")},
		{"\x01" + otherLeaf("a") + otherLeaf("b")}, {"\x00"}, {"\x00a"}, {hashOf()},
	} {
		root, code := impl.ItemRoot(items)
		if other, is := seen[root]; is || code != impl.OK {
			t.Errorf("ItemRoot: %q and %s have one root, code %d", items, other, code)
		}
		seen[root] = fmt.Sprintf("%q", items)
	}
}

func TestP7WrongItemsHaveNoRoot(t *testing.T) {
	for _, items := range wrongItems() {
		got, code := impl.ItemRoot(items)
		wantCode(t, fmt.Sprint("ItemRoot of ", len(items), " items, ", told(items)), got, code, impl.ErrBad)
	}
}

func wantProof(t *testing.T, items []string, at int, want []string) {
	t.Helper()
	if got, code := impl.ProveItem(items, at); code != impl.OK || !slices.Equal(got, want) {
		t.Errorf("ProveItem of %d at %d: got %x, code %d; want %x", len(items), at, got, code, want)
	}
}

func wantNoProof(t *testing.T, items []string, at int, want int) {
	t.Helper()
	if got, code := impl.ProveItem(items, at); len(got) > 0 || code != want {
		t.Errorf("ProveItem of %d at %d: got %x, code %d; want nothing, code %d", len(items), at, got, code, want)
	}
}

func TestP7ProofsWrittenOut(t *testing.T) {
	a, b, c, d, e := otherLeaf("a"), otherLeaf("b"), otherLeaf("c"), otherLeaf("d"), otherLeaf("e")
	items := []string{"a", "b", "c", "d", "e"}
	ab, cd := otherJoin(a, b), otherJoin(c, d)
	for at, want := range [][]string{{b, cd, e}, {a, cd, e}, {d, ab, e}, {c, ab, e}, {otherJoin(ab, cd)}} {
		wantProof(t, items, at, want)
	}
	wantProof(t, items[:1], 0, nil)
	wantProof(t, []string{""}, 0, nil)
	wantProof(t, items[:2], 1, []string{a})
}

func TestP7Proofs(t *testing.T) {
	for count := 1; count <= 64; count++ {
		for _, items := range [][]string{someItems(count, 5), unevenItems(count)} {
			for at := range items {
				wantProof(t, items, at, otherProof(items, at))
			}
		}
	}
}

func TestP7ProofsBeyondTheItems(t *testing.T) {
	for _, items := range rightItems() {
		count := len(items)
		for _, at := range append(farNumbers(), -1, count, count+1, count+64, -count-1) {
			wantNoProof(t, items, at, impl.ErrRange)
		}
	}
}

func TestP7WrongItemsHaveNoProof(t *testing.T) {
	for _, items := range wrongItems() {
		for _, at := range append(farNumbers(), -1, 0, 1, len(items)-1, len(items)) {
			wantNoProof(t, items, at, impl.ErrBad)
		}
	}
}
