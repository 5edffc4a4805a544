package tests

import (
	"fmt"
	"slices"
	"testing"
	"unsafe"

	"loop.example/g00254/impl"
)

// longItems, longProofs and longBoards have more elements than any list may have.
func longItems() [][]string {
	return [][]string{make([]string, impl.MaxList+1), someItems(impl.MaxList+1, 3), slices.Repeat([]string{noughts(401)}, 2*impl.MaxList)}
}

func longProofs() [][]string {
	return [][]string{slices.Repeat([]string{noughts(32)}, impl.MaxList+1), make([]string, 2*impl.MaxList)}
}

func longBoards() [][]impl.Post {
	return [][]impl.Post{make([]impl.Post, impl.MaxList+1), someBoard(impl.MaxList + 1), slices.Repeat([]impl.Post{{Round: -1}}, 2*impl.MaxList)}
}

func TestP1RootsAndProofsLongFirst(t *testing.T) {
	for _, items := range longItems() {
		got, code := impl.ItemRoot(items)
		wantCode(t, "ItemRoot of a long list", got, code, impl.ErrLong)
		for _, at := range append(farNumbers(), -1, 0, len(items)) {
			wantNoProof(t, items, at, impl.ErrLong)
		}
	}
}

func TestP1CheckItemLongFirst(t *testing.T) {
	right := rightClaim(someItems(5, 5), 3)
	for _, long := range longTexts() {
		for _, at := range []int{-1, 0, 3, 5} {
			for _, size := range []int{-1, 0, 5, 65} {
				for _, proof := range append(longProofs(), nil, right.proof, []string{"x"}, make([]string, 65)) {
					for _, c := range []claim{
						{long, right.item, at, size, proof}, {right.root, long, at, size, proof}, {long, long, at, size, proof},
						{"", long, at, size, proof}, {long, noughts(401), at, size, proof},
					} {
						wantChecked(t, "a long text", c, impl.ErrLong)
					}
				}
				for _, proof := range longProofs() {
					wantChecked(t, "a long proof", claim{right.root, right.item, at, size, proof}, impl.ErrLong)
					wantChecked(t, "a long proof", claim{"", noughts(401), at, size, proof}, impl.ErrLong)
				}
			}
		}
	}
}

func TestP1BoardsLongFirst(t *testing.T) {
	for _, list := range longBoards() {
		if impl.BoardOK(list) {
			t.Error("BoardOK of a long list")
		}
		for _, p := range []impl.Post{{}, postAt(0, 0), postAt(1000000, 255), {Root: noughts(impl.MaxText + 1)}} {
			wantNotAdded(t, list, p, impl.ErrLong)
			got, code := impl.BoardFind(list, p.Round, p.Layer)
			wantCode(t, "BoardFind of a long list", got, code, impl.ErrLong)
		}
		got, code := impl.BoardRoot(list)
		wantCode(t, "BoardRoot of a long list", got, code, impl.ErrLong)
	}
}

// TestP1LongTextsWithinLists: these are bounded by the chapter alone.
func TestP1LongTextsWithinLists(t *testing.T) {
	right := rightClaim(someItems(2, 5), 1)
	for _, long := range longTexts() {
		got, code := impl.ItemRoot([]string{"a", long})
		wantCode(t, "ItemRoot of a long item", got, code, impl.ErrBad)
		wantNoProof(t, []string{"a", long}, 0, impl.ErrBad)
		right.proof = []string{long}
		wantChecked(t, "a long root beside", right, impl.ErrBad)
		wantNotAdded(t, nil, impl.Post{Root: long}, impl.ErrBad)
		wantNotAdded(t, []impl.Post{{Root: long}}, postAt(1, 1), impl.ErrBad)
	}
}

func TestP1ItemsAreNotWrittenInto(t *testing.T) {
	for _, items := range append(append(rightItems(), wrongItems()...), longItems()...) {
		inside, whole := guardedItems(items)
		impl.ItemRoot(inside)
		for _, at := range []int{-1, 0, len(items) / 2, len(items)} {
			impl.ProveItem(inside, at)
		}
		impl.CheckItem(noughts(32), "a", 0, 5, inside)
		if _, want := guardedItems(items); !slices.Equal(whole, want) {
			t.Errorf("%d items were written into, or what is around them", len(items))
		}
	}
}

func TestP1ProofsAreNotWrittenInto(t *testing.T) {
	for _, c := range someClaims() {
		inside, whole := guardedItems(c.proof)
		for _, root := range []string{c.root, noughts(32), ""} {
			for _, at := range []int{c.at, 0, -1} {
				impl.CheckItem(root, c.item, at, c.size, inside)
			}
		}
		if _, want := guardedItems(c.proof); !slices.Equal(whole, want) {
			t.Error("a proof was written into, or what is around it")
		}
	}
}

// guardedPosts lie in the middle of a list whose other posts no call has to do with.
func guardedPosts(list []impl.Post) (inside, whole []impl.Post) {
	whole = slices.Concat([]impl.Post{{Round: -7}}, list, slices.Repeat([]impl.Post{{Layer: -7, Root: "behind"}}, 70))
	return whole[1 : 1+len(list)], whole
}

func TestP1PostsAreNotWrittenInto(t *testing.T) {
	for _, list := range slices.Concat(rightBoards(), wrongBoards(), longBoards()) {
		inside, whole := guardedPosts(list)
		impl.BoardOK(inside)
		for _, p := range []impl.Post{postAt(0, 0), postAt(1000000, 255), {}} {
			impl.BoardAdd(inside, p)
			impl.BoardFind(inside, p.Round, p.Layer)
		}
		impl.BoardRoot(inside)
		if _, want := guardedPosts(list); !slices.Equal(whole, want) {
			t.Errorf("%d posts were written into, or what is around them", len(list))
		}
	}
}

// TestP1BoardReadsNothingBehind: how much room a list has, and what lies there, is not to be seen.
func TestP1BoardReadsNothingBehind(t *testing.T) {
	for _, list := range slices.Concat(rightBoards(), wrongBoards()) {
		inside, _ := guardedPosts(list)
		if boardTold(inside) != boardTold(slices.Clip(list)) {
			t.Errorf("%d posts have other answers with others behind", len(list))
		}
	}
	for _, items := range append(rightItems(), wrongItems()...) {
		inside, _ := guardedItems(items)
		if itemsTold(inside) != itemsTold(slices.Clip(items)) {
			t.Errorf("%d items have other answers with others behind", len(items))
		}
	}
}

func TestP1AnsweredProofsAreNewMemory(t *testing.T) {
	items := someItems(13, 5)
	first, _ := impl.ProveItem(items, 4)
	second, _ := impl.ProveItem(items, 4)
	clear(first[:cap(first)])
	if !slices.Equal(second, otherProof(items, 4)) || !slices.Equal(items, someItems(13, 5)) {
		t.Error("ProveItem hands out memory that is not new")
	}
	wantProof(t, items, 4, otherProof(items, 4))
}

func TestP1AnsweredBoardsAreNewMemory(t *testing.T) {
	for _, count := range []int{0, 1, 2, 31, 63} {
		list := append(make([]impl.Post, 0, 100), someBoard(count)...)
		first, _ := impl.BoardAdd(list, postAt(5000, 1))
		second, _ := impl.BoardAdd(list, postAt(5000, 2))
		clear(first[:cap(first)])
		if !slices.Equal(list, someBoard(count)) || !slices.Equal(second, append(someBoard(count), postAt(5000, 2))) {
			t.Error("BoardAdd hands out memory that is not new:", count)
		}
		clear(list)
		if !slices.Equal(second[:count], someBoard(count)) {
			t.Error("BoardAdd's answer hangs on its argument's memory:", count)
		}
	}
}

// sharesText says whether two texts lie in one memory.
func sharesText(a, b string) bool { return unsafe.StringData(a) == unsafe.StringData(b) }

func TestP1AnsweredRootsAreNewMemory(t *testing.T) {
	list, p := someBoard(5), postAt(5000, 1)
	added, _ := impl.BoardAdd(list, p)
	for i, ahead := range append(slices.Clone(list), p) {
		if sharesText(added[i].Root, ahead.Root) {
			t.Error("BoardAdd shares the root of post", i)
		}
	}
	for i, ahead := range list {
		if root, _ := impl.BoardFind(list, ahead.Round, ahead.Layer); sharesText(root, ahead.Root) {
			t.Error("BoardFind shares the root of post", i)
		}
	}
}

func TestP1BoardOfNilAndEmpty(t *testing.T) {
	for _, empty := range [][]impl.Post{nil, {}, make([]impl.Post, 0, 70)} {
		if !impl.BoardOK(empty) {
			t.Error("BoardOK of nothing")
		}
		wantAdded(t, empty, postAt(0, 0))
		wantNotAdded(t, empty, impl.Post{}, impl.ErrBad)
		got, code := impl.BoardRoot(empty)
		wantText(t, "BoardRoot of nothing", got, code, hashOf())
		got, code = impl.BoardFind(empty, 0, 0)
		wantCode(t, "BoardFind of nothing", got, code, impl.ErrNone)
	}
	for _, empty := range [][]string{nil, {}, make([]string, 0, 70)} {
		got, code := impl.ItemRoot(empty)
		wantText(t, "ItemRoot of nothing", got, code, hashOf())
		wantNoProof(t, empty, 0, impl.ErrRange)
		wantChecked(t, "without a proof", claim{otherLeaf("a"), "a", 0, 1, empty}, impl.OK)
		wantChecked(t, "without a proof", claim{otherLeaf("a"), "b", 0, 1, empty}, impl.ErrRoot)
		wantChecked(t, "without a proof", claim{otherLeaf("a"), "a", 0, 2, empty}, impl.ErrForm)
	}
}

func itemsTold(items []string) string {
	root, code := impl.ItemRoot(items)
	out := fmt.Sprintf("%x %d", root, code)
	for at := -1; at <= min(len(items), 65); at++ {
		proof, code := impl.ProveItem(items, at)
		out += fmt.Sprintf(" %x %d", proof, code)
	}
	return out + fmt.Sprint(" ", impl.CheckItem(noughts(32), "a", 2, 5, items))
}

func boardTold(list []impl.Post) string {
	root, rootCode := impl.BoardRoot(list)
	found, foundCode := impl.BoardFind(list, 7, 100)
	added, addedCode := impl.BoardAdd(list, postAt(1000000, 255))
	return fmt.Sprintf("%v %x %d %x %d %x %d", impl.BoardOK(list), root, rootCode, found, foundCode, added, addedCode)
}

// boardAnswers tells what all functions of the chapter answer, in one order or the other.
func boardAnswers(backwards bool) map[string]string {
	items := append(rightItems()[40:50], wrongItems()[:4]...)
	boards := append(rightBoards()[20:70], wrongBoards()[:10]...)
	claims := someClaims()
	if backwards {
		slices.Reverse(items)
		slices.Reverse(boards)
		slices.Reverse(claims)
	}
	out := map[string]string{}
	for _, list := range items {
		out[fmt.Sprintf("items %x", list)] = itemsTold(list)
	}
	for _, list := range boards {
		out[fmt.Sprintf("board %x", list)] = boardTold(list)
	}
	for _, c := range claims {
		out[fmt.Sprintf("claim %x", c)] = fmt.Sprint(c.check())
	}
	return out
}

func TestP1BoardAlikeArgumentsAlikeAnswers(t *testing.T) { wantAlike(t, boardAnswers) }

func TestP1BoardCallsBesideEachOther(t *testing.T) { wantAlikeBeside(t, boardAnswers) }
