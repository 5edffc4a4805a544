package tests

import (
	"encoding/binary"
	"fmt"
	"slices"
	"testing"

	"loop.example/g00254/impl"
)

func otherPost(p impl.Post) string {
	b := append(binary.BigEndian.AppendUint32(nil, uint32(p.Round)), byte(p.Layer))
	return string(b) + p.Root
}

func rightPost(p impl.Post) bool {
	return within(p.Round, 1000000) && within(p.Layer, 255) && len(p.Root) == 32
}

// isBehind has both numbers in one; right layers are below 256.
func isBehind(p, q impl.Post) bool { return p.Round*256+p.Layer > q.Round*256+q.Layer }

func rightBoard(list []impl.Post) bool {
	for i, p := range list {
		if !rightPost(p) || i > 0 && !isBehind(p, list[i-1]) {
			return false
		}
	}
	return len(list) <= 64
}

func postAt(round, layer int) impl.Post {
	return impl.Post{Round: round, Layer: layer, Root: otherLeaf(fmt.Sprint("post ", round, " ", layer))}
}

// someBoard has several layers of some rounds, and rounds that are left out.
func someBoard(count int) []impl.Post {
	var out []impl.Post
	for i := range count {
		out = append(out, postAt(i/3*7, 100*(i%3)+i/3%2))
	}
	return out
}

func rightBoards() [][]impl.Post {
	var out [][]impl.Post
	for count := range 65 {
		out = append(out, someBoard(count))
	}
	var oneRound, oneLayer []impl.Post
	for i := range 64 {
		oneRound = append(oneRound, postAt(1000000, 192+i))
		oneLayer = append(oneLayer, postAt(i, 0))
	}
	return append(out, oneRound, oneLayer,
		[]impl.Post{postAt(0, 0)}, []impl.Post{postAt(1000000, 255)}, []impl.Post{postAt(0, 255), postAt(1, 0)},
		[]impl.Post{postAt(0, 0), postAt(0, 1), postAt(0, 255), postAt(1000000, 0), postAt(1000000, 255)},
		[]impl.Post{{Round: 1, Root: noughts(32)}, {Round: 2, Root: noughts(32)}})
}

// edgePosts are all that stand at an end of each field or beyond it, right ones and wrong ones.
func edgePosts() []impl.Post {
	var out []impl.Post
	for _, round := range edgeRounds() {
		for _, layer := range edgeLayers() {
			for _, size := range []int{0, 31, 32, 33, 64, impl.MaxText + 1} {
				out = append(out, impl.Post{Round: round, Layer: layer, Root: noughts(size)})
			}
		}
	}
	for _, n := range farNumbers() {
		out = append(out, impl.Post{Round: n, Root: noughts(32)}, impl.Post{Layer: n, Root: noughts(32)}, impl.Post{Round: 5, Layer: n, Root: noughts(32)})
	}
	return append(out, impl.Post{})
}

func wrongPosts() []impl.Post { return slices.DeleteFunc(edgePosts(), rightPost) }

// wrongBoards are too long, in a wrong order, or have one post, at any place, that is not right.
func wrongBoards() [][]impl.Post {
	var out [][]impl.Post
	for _, count := range []int{65, 66, 128, 129, impl.MaxList} {
		out = append(out, someBoard(count))
	}
	for _, p := range wrongPosts() {
		out = append(out, []impl.Post{p}, []impl.Post{p, postAt(1000000, 255)}, []impl.Post{postAt(0, 0), p})
		board := someBoard(64)
		board[40].Root = p.Root
		if len(p.Root) != 32 {
			out = append(out, board)
		}
	}
	for at := range 63 {
		exchanged, twice := someBoard(64), someBoard(64)
		exchanged[at], exchanged[at+1] = exchanged[at+1], exchanged[at]
		twice[at+1] = twice[at]
		out = append(out, exchanged, twice)
	}
	return append(out,
		[]impl.Post{postAt(3, 4), postAt(3, 4)}, []impl.Post{postAt(3, 4), postAt(3, 3)}, []impl.Post{postAt(3, 4), postAt(2, 5)},
		[]impl.Post{postAt(3, 4), postAt(2, 4)}, []impl.Post{postAt(1, 0), postAt(3, 0), postAt(2, 0)})
}

func TestP7BoardsOfOnePost(t *testing.T) {
	for _, p := range edgePosts() {
		if got := impl.BoardOK([]impl.Post{p}); got != rightPost(p) {
			t.Errorf("BoardOK of %s: %v", told(p), got)
		}
	}
}

func TestP7RightAndWrongBoards(t *testing.T) {
	for _, list := range rightBoards() {
		if !rightBoard(list) || !impl.BoardOK(list) {
			t.Errorf("BoardOK is false of %d posts, %s", len(list), told(list))
		}
	}
	for _, list := range wrongBoards() {
		if rightBoard(list) || impl.BoardOK(list) {
			t.Errorf("BoardOK is true of %d posts, %s", len(list), told(list))
		}
	}
}

func TestP7HowManyPosts(t *testing.T) {
	for count := range 130 {
		if got := impl.BoardOK(someBoard(count)); got != (count <= 64) {
			t.Errorf("BoardOK of %d posts: %v", count, got)
		}
	}
}

// smallPosts have rounds and layers that lie beside each other, and at both ends.
func smallPosts() []impl.Post {
	var out []impl.Post
	for _, round := range []int{0, 1, 2, 1000000} {
		for _, layer := range []int{0, 1, 2, 255} {
			out = append(out, postAt(round, layer))
		}
	}
	return out
}

func TestP7OrderOfPosts(t *testing.T) {
	for _, p := range smallPosts() {
		for _, q := range smallPosts() {
			for _, list := range [][]impl.Post{{p, q}, {p, q, postAt(1000000, 255)}, {postAt(0, 0), p, q}} {
				if got := impl.BoardOK(list); got != rightBoard(list) {
					t.Errorf("BoardOK of %s: %v", told(list), got)
				}
			}
		}
	}
	root := noughts(32)
	for _, x := range []struct {
		p, q impl.Post
		want bool
	}{
		{impl.Post{Round: 4, Layer: 4, Root: root}, impl.Post{Round: 4, Layer: 4, Root: ones(32)}, false},
		{impl.Post{Round: 4, Layer: 4, Root: root}, impl.Post{Round: 4, Layer: 5, Root: root}, true},
		{impl.Post{Round: 4, Layer: 4, Root: root}, impl.Post{Round: 4, Layer: 3, Root: root}, false},
		{impl.Post{Round: 4, Layer: 4, Root: root}, impl.Post{Round: 5, Layer: 3, Root: root}, true},
		{impl.Post{Round: 4, Layer: 4, Root: root}, impl.Post{Round: 3, Layer: 5, Root: root}, false},
		{impl.Post{Round: 4, Layer: 4, Root: root}, impl.Post{Round: 3, Layer: 255, Root: root}, false},
	} {
		if got := impl.BoardOK([]impl.Post{x.p, x.q}); got != x.want {
			t.Errorf("BoardOK of %s, %s: %v", told(x.p), told(x.q), got)
		}
	}
}

func wantAdded(t *testing.T, list []impl.Post, p impl.Post) {
	t.Helper()
	got, code := impl.BoardAdd(list, p)
	if want := append(slices.Clone(list), p); code != impl.OK || !slices.Equal(got, want) || !impl.BoardOK(got) {
		t.Errorf("BoardAdd of %s to %d posts: got %s, code %d", told(p), len(list), told(got), code)
	}
}

func wantNotAdded(t *testing.T, list []impl.Post, p impl.Post, want int) {
	t.Helper()
	if got, code := impl.BoardAdd(list, p); code != want || len(got) > 0 {
		t.Errorf("BoardAdd of %s to %d posts, %s: got %s, code %d; want nothing, code %d", told(p), len(list), told(list), told(got), code, want)
	}
}

// TestP7ABoardOnlyGrows fills a board post by post.
func TestP7ABoardOnlyGrows(t *testing.T) {
	var board []impl.Post
	for i, p := range someBoard(64) {
		wantAdded(t, board, p)
		next, _ := impl.BoardAdd(board, p)
		if len(next) != i+1 || !slices.Equal(next[:i], board) {
			t.Fatal("the board is not what it was, and one more:", i)
		}
		board = next
	}
	if !slices.Equal(board, someBoard(64)) {
		t.Error("a full board is not what was added")
	}
	wantNotAdded(t, board, postAt(1000000, 255), impl.ErrFull)
}

func TestP7PostsLateAndLater(t *testing.T) {
	for _, last := range smallPosts() {
		for _, list := range [][]impl.Post{{last}, {postAt(0, 0), last}} {
			if !rightBoard(list) {
				continue
			}
			for _, p := range smallPosts() {
				if isBehind(p, last) {
					wantAdded(t, list, p)
				} else {
					wantNotAdded(t, list, p, impl.ErrLate)
				}
			}
		}
	}
	for _, p := range smallPosts() {
		wantAdded(t, nil, p)
	}
	// between two that are there is late as well
	wantNotAdded(t, []impl.Post{postAt(1, 0), postAt(5, 0)}, postAt(3, 0), impl.ErrLate)
	wantNotAdded(t, []impl.Post{postAt(1, 0), postAt(1, 9)}, postAt(1, 4), impl.ErrLate)
	same := postAt(1, 1)
	same.Root = ones(32)
	wantNotAdded(t, []impl.Post{postAt(1, 1)}, same, impl.ErrLate)
}

// TestP7FirstFaultOfAnAddedPost: ErrBad, of the board or the post, comes ahead of ErrLate, and that ahead of ErrFull.
func TestP7FirstFaultOfAnAddedPost(t *testing.T) {
	last := postAt(1000000, 255)
	for _, list := range wrongBoards() {
		for _, p := range append(wrongPosts()[:6], last, postAt(0, 0), impl.Post{}) {
			wantNotAdded(t, list, p, impl.ErrBad)
		}
	}
	full := someBoard(64)
	for _, list := range [][]impl.Post{nil, {postAt(0, 0)}, {last}, someBoard(63), full} {
		for _, p := range wrongPosts() {
			wantNotAdded(t, list, p, impl.ErrBad)
		}
	}
	for _, p := range full {
		wantNotAdded(t, full, p, impl.ErrLate)
	}
	wantNotAdded(t, full, last, impl.ErrFull)
	wantAdded(t, someBoard(63), last)
	wantNotAdded(t, append(someBoard(63), last), last, impl.ErrLate)
}

func TestP7BoardRoots(t *testing.T) {
	want := must(t)
	for _, list := range rightBoards() {
		var items []string
		for _, p := range list {
			items = append(items, otherPost(p))
		}
		got, code := impl.BoardRoot(list)
		call := fmt.Sprint("BoardRoot of ", len(list), " posts")
		wantText(t, call, got, code, otherRoot(items))
		wantText(t, call, got, code, want(impl.ItemRoot(items)))
	}
	p := impl.Post{Round: 0x0a0b0c, Layer: 0xfe, Root: someKey()}
	got, code := impl.BoardRoot([]impl.Post{p})
	wantText(t, "BoardRoot of one", got, code, hashOf("\x00", "\x00\x0a\x0b\x0c\xfe", someKey()))
	got, code = impl.BoardRoot(nil)
	wantText(t, "BoardRoot of none", got, code, hashOf())
}

func TestP7WrongBoardsHaveNoRoot(t *testing.T) {
	for _, list := range wrongBoards() {
		got, code := impl.BoardRoot(list)
		wantCode(t, fmt.Sprint("BoardRoot of ", len(list), " posts, ", told(list)), got, code, impl.ErrBad)
	}
}

func TestP7FindEachPost(t *testing.T) {
	for _, list := range rightBoards() {
		for _, p := range list {
			got, code := impl.BoardFind(list, p.Round, p.Layer)
			wantText(t, fmt.Sprint("BoardFind ", p.Round, " ", p.Layer, " of ", len(list)), got, code, p.Root)
		}
	}
}

func TestP7FindWhatIsNotThere(t *testing.T) {
	board := []impl.Post{postAt(0, 3), postAt(2, 3), postAt(2, 5), postAt(7, 1), postAt(1000000, 255)}
	there := func(round, layer int) bool {
		return slices.ContainsFunc(board, func(p impl.Post) bool { return p.Round == round && p.Layer == layer })
	}
	numbers := append(farNumbers(), -1, 0, 1, 2, 3, 4, 5, 7, 255, 256, 515, 1000000, 1000001)
	for _, round := range numbers {
		for _, layer := range numbers {
			call := fmt.Sprint("BoardFind ", round, " ", layer)
			got, code := impl.BoardFind(board, round, layer)
			if there(round, layer) {
				wantText(t, call, got, code, postAt(round, layer).Root)
			} else {
				wantCode(t, call, got, code, impl.ErrNone)
			}
			got, code = impl.BoardFind(nil, round, layer)
			wantCode(t, call+" of nothing", got, code, impl.ErrNone)
		}
	}
}

func TestP7FindInWrongBoards(t *testing.T) {
	for _, list := range wrongBoards() {
		for _, p := range []impl.Post{list[0], list[len(list)-1], postAt(0, 0), {Round: -1, Layer: 256}, postAt(999, 99)} {
			got, code := impl.BoardFind(list, p.Round, p.Layer)
			wantCode(t, fmt.Sprint("BoardFind ", p.Round, " ", p.Layer, " of ", len(list), ", ", told(list)), got, code, impl.ErrBad)
		}
	}
}
