package tests

import (
	"fmt"
	"runtime"
	"slices"
	"strings"
	"sync"
	"testing"
	"testing/synctest"
	"time"

	"loop.example/g00254/impl"
)

// slowAndQuick are batches whose parts end at different times: what is too short ends at once, an onion takes long.
func slowAndQuick(t *testing.T) [][]sent {
	good, quick := onionsOf(t, numbersUpTo(16)...), notOpening(slices.Repeat([]string{"quick"}, 16)...)
	long := make([]sent, 8)
	for i := range long {
		long[i] = onionOf(t, 50+i, someText(352))
	}
	return [][]sent{
		good,
		slices.Concat(good[:4], quick[:12]),
		slices.Concat(quick[:12], good[:4]),
		slices.Concat(quick[:4], good[:4], quick[:4], good[4:8]),
		slices.Concat(good[:4], quick[:4], good[:4], quick[:4]),
		slices.Concat(long, quick[:7], good[:1]),
		slices.Concat(good[:1], quick[:7], long),
		slices.Concat(good[:1], quick[:3], good[1:2], quick[:3], good[2:3], quick[:3], good[3:4], quick[:3]),
		slices.Concat(long[:4], good[:4], long[:4], good[:4]),
	}
}

// TestP1MixHoweverPartsEnd: on one processor and on many, over and over, the answers are alike.
func TestP1MixHoweverPartsEnd(t *testing.T) {
	defer runtime.GOMAXPROCS(runtime.GOMAXPROCS(0))
	words := otherWords(someKey(), 60)
	for _, processors := range []int{1, 2, 3, 8, 32} {
		runtime.GOMAXPROCS(processors)
		for i, list := range slowAndQuick(t) {
			for range 8 {
				wantMix(t, fmt.Sprint("batch ", i, " on ", processors), list, nil, oldTags(2), words)
			}
		}
	}
}

// TestP1MixesBesideEachOther: many mixes at the same time, each with parts of its own.
func TestP1MixesBesideEachOther(t *testing.T) {
	words, batches := otherWords(someKey(), 60), slowAndQuick(t)
	var alike [27]bool
	var group sync.WaitGroup
	for i := range alike {
		list := batches[i%len(batches)]
		want, wanted := otherMix(list, nil, nil, words)
		items := itemsOf(list)
		group.Go(func() {
			x, code := impl.MixItems(secretOf(0), mixRound, items, nil, nil, words)
			alike[i] = code == wanted && sameMix(x, want)
		})
	}
	group.Wait()
	for i, same := range alike {
		if !same {
			t.Error("another answer beside others:", i)
		}
	}
}

// partsPeeling is how many goroutines stand in the midst of what a part does: in a function of the program that one of
// its functions called. One that has done its part may be at its very end still.
func partsPeeling() int {
	all := make([]byte, 1<<20)
	count := 0
	for _, stack := range strings.Split(string(all[:runtime.Stack(all, true)]), "\n\n") {
		stack, _, made := strings.Cut(stack, "created by loop.example/g00254/impl.")
		if made && strings.Count(stack, "loop.example/g00254/impl.") > 1 {
			count++
		}
	}
	return count
}

// TestP1NoPartIsLeftBehind: neither beside an answer nor beside a code.
func TestP1NoPartIsLeftBehind(t *testing.T) {
	before := runtime.NumGoroutine()
	for _, list := range slowAndQuick(t) {
		for _, words := range [][]int{nil, otherWords(someKey(), 60), {65536}} {
			for range 5 {
				impl.MixItems(secretOf(0), mixRound, itemsOf(list), nil, nil, words)
				if left := partsPeeling(); left > 0 {
					t.Fatal(left, "parts are peeled behind the answer")
				}
			}
		}
	}
	for wait := 0; runtime.NumGoroutine() > before; wait++ {
		if wait == 1000 {
			t.Fatal(runtime.NumGoroutine()-before, "goroutines are left")
		}
		time.Sleep(time.Millisecond)
	}
}

// TestP1NoPartWaitsForEver: the bubble fails if a part is left that nobody hears.
func TestP1NoPartWaitsForEver(t *testing.T) {
	batches := slowAndQuick(t)
	for _, list := range batches {
		for _, words := range [][]int{nil, otherWords(someKey(), 60)} {
			synctest.Test(t, func(t *testing.T) {
				impl.MixItems(secretOf(0), mixRound, itemsOf(list), nil, nil, words)
			})
		}
	}
}
