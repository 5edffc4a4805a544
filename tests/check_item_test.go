package tests

import (
	"slices"
	"testing"

	"loop.example/g00254/impl"
)

// claim is what CheckItem is asked.
type claim struct {
	root, item string
	at, size   int
	proof      []string
}

func (c claim) check() int { return impl.CheckItem(c.root, c.item, c.at, c.size, c.proof) }

func wantChecked(t *testing.T, why string, c claim, want int) {
	t.Helper()
	if got := c.check(); got != want {
		t.Errorf("CheckItem, %s, at %d of %d, %d bytes, %d in the proof: code %d, want %d", why, c.at, c.size, len(c.item), len(c.proof), got, want)
	}
}

func rightClaim(items []string, at int) claim {
	return claim{otherRoot(items), items[at], at, len(items), otherProof(items, at)}
}

// someClaims are right ones of trees of several shapes, at all their places.
func someClaims() []claim {
	var out []claim
	for _, count := range []int{1, 2, 3, 5, 8, 13, 33, 64} {
		for at := range count {
			out = append(out, rightClaim(someItems(count, 5), at))
		}
	}
	return out
}

func TestP7WhatIsProvedIsAccepted(t *testing.T) {
	for count := 1; count <= 64; count++ {
		for _, items := range [][]string{someItems(count, 5), unevenItems(count), make([]string, count)} {
			root := must(t)(impl.ItemRoot(items))
			for at, item := range items {
				proof, code := impl.ProveItem(items, at)
				if code != impl.OK {
					t.Fatal("ProveItem", count, at, code)
				}
				wantChecked(t, "proved", claim{root, item, at, count, proof}, impl.OK)
			}
		}
	}
	for _, size := range []int{0, 1, 399, 400} {
		items := someItems(3, size)
		wantChecked(t, "at an edge of items", rightClaim(items, 2), impl.OK)
	}
}

// TestP7OtherPlacesAndSizes asks one proof for all places of all sizes.
func TestP7OtherPlacesAndSizes(t *testing.T) {
	for _, count := range []int{1, 2, 3, 4, 5, 7, 8, 13, 63, 64} {
		for _, at := range []int{0, count / 2, count - 1} {
			c := rightClaim(someItems(count, 5), at)
			for c.size = 1; c.size <= 64; c.size++ {
				for c.at = 0; c.at < c.size; c.at++ {
					wantChecked(t, "of another place or size", c, otherCheck(c.root, c.item, c.at, c.size, c.proof))
				}
			}
		}
	}
}

func TestP7OtherPlaceOfTheSameSize(t *testing.T) {
	for _, count := range []int{2, 4, 8, 16, 32, 64} {
		for at := range count {
			c := rightClaim(someItems(count, 5), at)
			for c.at = range count {
				if c.at != at {
					wantChecked(t, "of another place", c, impl.ErrRoot)
				}
			}
		}
	}
}

func TestP7AnotherItemLeadsElsewhere(t *testing.T) {
	for _, c := range someClaims() {
		for _, item := range []string{"", c.item + "\x00", c.item[:4], "\x00" + c.item, flipped(c.item, 0), flipped(c.item, 39), noughts(400), c.root} {
			other := c
			other.item = item
			wantChecked(t, "of another item", other, impl.ErrRoot)
		}
	}
}

func TestP7EachBitOfARootCounts(t *testing.T) {
	for _, c := range []claim{rightClaim([]string{"a"}, 0), rightClaim(someItems(13, 5), 9), rightClaim(someItems(64, 400), 63)} {
		for bit := range 256 {
			other := c
			other.root = flipped(c.root, bit)
			wantChecked(t, "to another root", other, impl.ErrRoot)
			for i := range c.proof {
				other = c
				other.proof = slices.Clone(c.proof)
				other.proof[i] = flipped(c.proof[i], bit)
				wantChecked(t, "by another root beside", other, impl.ErrRoot)
			}
		}
	}
}

func TestP7ProofsInAnotherOrder(t *testing.T) {
	for _, c := range someClaims() {
		if len(c.proof) > 1 {
			c.proof = slices.Clone(c.proof)
			slices.Reverse(c.proof)
			wantChecked(t, "backwards", c, impl.ErrRoot)
		}
	}
}

// TestP7TwoRootsAreNoItem: what is hashed of two roots is not to be told for an item, nor an item for two roots.
func TestP7TwoRootsAreNoItem(t *testing.T) {
	a, b := otherLeaf("a"), otherLeaf("b")
	root := otherJoin(a, b)
	wantChecked(t, "two roots", claim{root, a + b, 0, 1, nil}, impl.ErrRoot)
	wantChecked(t, "two roots, marked", claim{root, "\x01" + a + b, 0, 1, nil}, impl.ErrRoot)
	wantChecked(t, "a root", claim{root, a, 0, 2, []string{b}}, impl.ErrRoot)
	wantChecked(t, "its own root", claim{hashOf("a"), "a", 0, 1, nil}, impl.ErrRoot)
	wantChecked(t, "nothing's root", claim{hashOf(), "", 0, 1, nil}, impl.ErrRoot)
}

// TestP7ProofsTooShortOrTooLong: also where all that is left, or the beginning, leads to the root.
func TestP7ProofsTooShortOrTooLong(t *testing.T) {
	for _, c := range someClaims() {
		whole := c.proof
		for n := range whole {
			c.proof = whole[:n]
			wantChecked(t, "too short", c, impl.ErrForm)
			c.proof = whole[n+1:]
			wantChecked(t, "without its first ones", c, impl.ErrForm)
		}
		for _, more := range []string{c.root, noughts(32), otherLeaf(c.item)} {
			for _, n := range []int{1, 2, 7, 64 - len(whole)} {
				c.proof = slices.Concat(whole, slices.Repeat([]string{more}, n))
				wantChecked(t, "too long", c, impl.ErrForm)
				c.proof = slices.Concat(slices.Repeat([]string{more}, n), whole)
				wantChecked(t, "with more ahead", c, impl.ErrForm)
			}
		}
		// the root of a step more is right for the longer proof, but there is no such step
		c.proof = append(slices.Clone(whole), noughts(32))
		for _, root := range []string{otherJoin(c.root, noughts(32)), otherJoin(noughts(32), c.root)} {
			c.root = root
			wantChecked(t, "a step more", c, impl.ErrForm)
		}
	}
}

func TestP7BadClaims(t *testing.T) {
	for _, c := range someClaims() {
		for _, size := range []int{0, 1, 31, 33, 64, impl.MaxText} {
			bad := c
			bad.root = noughts(size)
			wantChecked(t, "a root that is none", bad, impl.ErrBad)
			for i := range c.proof {
				bad = c
				bad.proof = slices.Clone(c.proof)
				bad.proof[i] = noughts(size)
				wantChecked(t, "a proof's root that is none", bad, impl.ErrBad)
			}
		}
		for _, size := range []int{401, 402, impl.MaxText} {
			bad := c
			bad.item = noughts(size)
			wantChecked(t, "a long item", bad, impl.ErrBad)
		}
		for _, count := range []int{65, 66, 128, impl.MaxList} {
			bad := c
			bad.proof = slices.Repeat([]string{c.root}, count)
			wantChecked(t, "many", bad, impl.ErrBad)
		}
	}
}

func TestP7ClaimsOutOfRange(t *testing.T) {
	for _, c := range someClaims() {
		for _, size := range append(farNumbers(), 0, 65, 66, -1, 128) {
			for _, at := range append(farNumbers(), -1, 0, 1, c.at, size-1, size) {
				wantChecked(t, "no such size", claim{c.root, c.item, at, size, c.proof}, impl.ErrRange)
			}
		}
		for _, at := range append(farNumbers(), -1, c.size, c.size+1, 64, 65) {
			wantChecked(t, "no such place", claim{c.root, c.item, at, c.size, c.proof}, impl.ErrRange)
		}
	}
	wantChecked(t, "the last place", rightClaim(someItems(64, 1), 63), impl.OK)
}

// TestP7FirstFaultOfAClaim puts faults together; the earlier one in the chapter gives the code.
func TestP7FirstFaultOfAClaim(t *testing.T) {
	right := rightClaim(someItems(5, 5), 2)
	other := otherLeaf("other")
	stages := []struct {
		code    int
		changes []func(c *claim)
	}{
		{impl.ErrLong, []func(c *claim){
			func(c *claim) { c.root = noughts(impl.MaxText + 1) },
			func(c *claim) { c.item = noughts(impl.MaxText + 1) },
			func(c *claim) { c.proof = make([]string, impl.MaxList+1) },
		}},
		{impl.ErrBad, []func(c *claim){
			func(c *claim) { c.root += "\x00" },
			func(c *claim) { c.root = c.root[1:] },
			func(c *claim) { c.item = noughts(401) },
			func(c *claim) { c.proof = append(slices.Clone(c.proof), other[1:]) },
			func(c *claim) { c.proof = slices.Repeat([]string{other}, 65) },
		}},
		{impl.ErrRange, []func(c *claim){
			func(c *claim) { c.size = 0 },
			func(c *claim) { c.size = 65 },
			func(c *claim) { c.size, c.at = -1, -2 },
			func(c *claim) { c.at = -1 },
			func(c *claim) { c.at = c.size },
		}},
		{impl.ErrForm, []func(c *claim){
			func(c *claim) { c.proof = nil },
			func(c *claim) { c.proof = c.proof[1:] },
			func(c *claim) { c.proof = append(slices.Clone(c.proof), other) },
		}},
		{impl.ErrRoot, []func(c *claim){
			func(c *claim) { c.root = flipped(c.root, 7) },
			func(c *claim) { c.item = "x" },
		}},
	}
	// the later faults are put in first, so that an earlier one, put in over them, is there as well
	lists := map[int][]claim{}
	claims := []claim{right}
	for _, stage := range slices.Backward(stages) {
		for _, change := range stage.changes {
			for _, c := range claims {
				change(&c)
				lists[stage.code] = append(lists[stage.code], c)
			}
		}
		claims = append(claims, lists[stage.code]...)
	}
	for code, list := range lists {
		for _, c := range list {
			wantChecked(t, "faults together", c, code)
		}
	}
}
