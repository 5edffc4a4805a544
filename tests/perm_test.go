package tests

import (
	"fmt"
	"math"
	"slices"
	"testing"

	"loop.example/g00254/impl"
)

// otherOrder puts what the first choice tells at the end and what stood at the end where it was taken, then all others
// likewise.
func otherOrder(list, choices []int) []int {
	if len(choices) == 0 {
		return slices.Clone(list)
	}
	end := len(list) - 1
	rest := slices.Clone(list[:end])
	if choices[0] < end {
		rest[choices[0]] = list[end]
	}
	return append(otherOrder(rest, choices[1:]), list[choices[0]])
}

func numbersUpTo(n int) []int {
	var out []int
	for i := range n {
		out = append(out, i)
	}
	return out
}

func otherPerm(choices []int) []int { return otherOrder(numbersUpTo(len(choices)+1), choices) }

// otherShuffle is of at least one number.
func otherShuffle(words []int, n int) (order []int, taken, code int) {
	var choices []int
	for left := n; left > 1; left-- {
		choice, more, code := otherUniform(words[taken:], left)
		if code != impl.OK {
			return nil, 0, code
		}
		choices, taken = append(choices, choice), taken+more
	}
	return otherPerm(choices), taken, impl.OK
}

// rightChoices: the first one is of the last place.
func rightChoices(choices []int) bool {
	for i, choice := range choices {
		if !within(choice, len(choices)-i) {
			return false
		}
	}
	return len(choices) <= 15
}

func rightPerm(perm []int) bool {
	return len(perm) >= 1 && len(perm) <= 16 && slices.Equal(slices.Sorted(slices.Values(perm)), numbersUpTo(len(perm)))
}

// eachChoices goes through all lists of choices of n numbers.
func eachChoices(n int, do func(choices []int)) {
	if n <= 1 {
		do(nil)
		return
	}
	for choice := range n {
		eachChoices(n-1, func(rest []int) { do(append([]int{choice}, rest...)) })
	}
}

// someChoices are lists of all lengths: those at both ends, and some between them.
func someChoices() [][]int {
	var out [][]int
	for count := range 16 {
		lists := [5][]int{}
		for i := range count {
			place := count - i
			for k, choice := range []int{0, place, place / 2, place - 1, (7*i + 3) % (place + 1)} {
				lists[k] = append(lists[k], choice)
			}
		}
		out = append(out, lists[:]...)
	}
	return out
}

func wantPerm(t *testing.T, choices, want []int) {
	t.Helper()
	if got, code := impl.PermOf(choices); code != impl.OK || !slices.Equal(got, want) {
		t.Errorf("PermOf of %v: %v, code %d; want %v", choices, got, code, want)
	}
}

func wantNoPerm(t *testing.T, choices []int, want int) {
	t.Helper()
	if got, code := impl.PermOf(choices); code != want || len(got) != 0 {
		t.Errorf("PermOf of %d choices %s: %v, code %d; want nothing, code %d", len(choices), told(choices), got, code, want)
	}
}

func wantChoices(t *testing.T, perm, want []int) {
	t.Helper()
	if got, code := impl.ChoicesOf(perm); code != impl.OK || !slices.Equal(got, want) {
		t.Errorf("ChoicesOf of %v: %v, code %d; want %v", perm, got, code, want)
	}
}

func wantInverse(t *testing.T, perm, want []int) {
	t.Helper()
	if got, code := impl.InvertPerm(perm); code != impl.OK || !slices.Equal(got, want) {
		t.Errorf("InvertPerm of %v: %v, code %d; want %v", perm, got, code, want)
	}
}

func wantNoOrder(t *testing.T, perm []int, want int) {
	t.Helper()
	if got, code := impl.ChoicesOf(perm); code != want || len(got) != 0 {
		t.Errorf("ChoicesOf of %d numbers %s: %v, code %d; want nothing, code %d", len(perm), told(perm), got, code, want)
	}
	if got, code := impl.InvertPerm(perm); code != want || len(got) != 0 {
		t.Errorf("InvertPerm of %d numbers %s: %v, code %d; want nothing, code %d", len(perm), told(perm), got, code, want)
	}
}

func wantShuffle(t *testing.T, words []int, n int, order []int, taken, code int) {
	t.Helper()
	if got, used, result := impl.ShuffleOf(words, n); result != code || used != taken || !slices.Equal(got, order) {
		t.Errorf("ShuffleOf of %d words %s, %d: %v, %d taken, code %d; want %v, %d, code %d", len(words), told(words), n, got, used, result, order, taken, code)
	}
}

func wantShuffleAsOther(t *testing.T, words []int, n int) {
	t.Helper()
	order, taken, code := otherShuffle(words, n)
	wantShuffle(t, words, n, order, taken, code)
}

func TestP12OrdersWrittenOut(t *testing.T) {
	for _, x := range []struct{ choices, order []int }{
		{nil, []int{0}},
		{[]int{0}, []int{1, 0}},
		{[]int{1}, []int{0, 1}},
		{[]int{0, 0}, []int{1, 2, 0}},
		{[]int{0, 1}, []int{2, 1, 0}},
		{[]int{1, 0}, []int{2, 0, 1}},
		{[]int{1, 1}, []int{0, 2, 1}},
		{[]int{2, 0}, []int{1, 0, 2}},
		{[]int{2, 1}, []int{0, 1, 2}},
		{[]int{0, 1, 1}, []int{3, 2, 1, 0}},
		{[]int{3, 2, 1}, []int{0, 1, 2, 3}},
		{[]int{0, 0, 0}, []int{1, 2, 3, 0}},
		{[]int{1, 2, 0}, []int{3, 0, 2, 1}},
	} {
		wantPerm(t, x.choices, x.order)
		wantChoices(t, x.order, x.choices)
	}
}

// TestP12EachOrderComesOnce: of all lists of choices of n numbers, and as many orders there are.
func TestP12EachOrderComesOnce(t *testing.T) {
	for n, factorial := 1, 1; n <= 7; n, factorial = n+1, factorial*(n+1) {
		times := map[string]int{}
		eachChoices(n, func(choices []int) {
			order, code := impl.PermOf(choices)
			if code != impl.OK || !rightPerm(order) || len(order) != n {
				t.Fatalf("PermOf of %v: %v, code %d", choices, order, code)
			}
			times[fmt.Sprint(order)]++
			wantPerm(t, choices, otherPerm(choices))
			wantChoices(t, order, choices)
		})
		if len(times) != factorial {
			t.Errorf("%d orders of %d numbers, want %d", len(times), n, factorial)
		}
		for order, count := range times {
			if count != 1 {
				t.Errorf("%s comes %d times", order, count)
			}
		}
	}
}

func TestP12OrdersOfEachLength(t *testing.T) {
	for _, choices := range someChoices() {
		order := otherPerm(choices)
		wantPerm(t, choices, order)
		wantChoices(t, order, choices)
		inverse := make([]int, len(order))
		for number := range inverse {
			inverse[number] = slices.Index(order, number)
		}
		wantInverse(t, order, inverse)
		wantInverse(t, inverse, order)
	}
}

// TestP12ThereAndBack holds the program against itself.
func TestP12ThereAndBack(t *testing.T) {
	for _, choices := range someChoices() {
		order, _ := impl.PermOf(choices)
		back, _ := impl.ChoicesOf(order)
		again, code := impl.PermOf(back)
		if code != impl.OK || !slices.Equal(back, choices) || !slices.Equal(again, order) {
			t.Errorf("%v leads to %v, and that back to %v and %v", choices, order, back, again)
		}
		turned, _ := impl.InvertPerm(order)
		twice, code := impl.InvertPerm(turned)
		if code != impl.OK || !slices.Equal(twice, order) {
			t.Errorf("%v turned round twice is %v", order, twice)
		}
		for place, number := range order {
			if turned[number] != place {
				t.Errorf("%v: %d stands at %d, but %v is told", order, number, place, turned)
			}
		}
	}
}

func TestP12InverseOfEachOrder(t *testing.T) {
	for n := 1; n <= 6; n++ {
		eachChoices(n, func(choices []int) {
			order := otherPerm(choices)
			turned, code := impl.InvertPerm(order)
			if code != impl.OK || !rightPerm(turned) {
				t.Fatalf("InvertPerm of %v: %v, code %d", order, turned, code)
			}
			for place := range order {
				if order[turned[place]] != place || turned[order[place]] != place {
					t.Errorf("InvertPerm of %v: %v", order, turned)
				}
			}
		})
	}
}

func TestP12EachChoiceAtItsEnds(t *testing.T) {
	for count := 1; count <= 15; count++ {
		for i := range count {
			place := count - i
			choices := make([]int, count)
			for choice := range place + 1 {
				choices[i] = choice
				wantPerm(t, choices, otherPerm(choices))
			}
			for _, wrong := range append(farNumbers(), -1, place+1, place+2, 16, 17, math.MaxInt-1, math.MinInt+1) {
				choices[i] = wrong
				wantNoPerm(t, choices, impl.ErrRange)
			}
		}
	}
}

// TestP12ManyChoices: there are at most 15, whatever they are.
func TestP12ManyChoices(t *testing.T) {
	wantPerm(t, make([]int, 15), append(numbersUpTo(16)[1:], 0))
	for _, count := range []int{16, 17, 18, 64, 255, 256, 257, impl.MaxList - 1, impl.MaxList} {
		wantNoPerm(t, make([]int, count), impl.ErrRange)
		wantNoPerm(t, slices.Repeat([]int{-1}, count), impl.ErrRange)
	}
	for _, count := range []int{impl.MaxList + 1, 2 * impl.MaxList} {
		wantNoPerm(t, make([]int, count), impl.ErrLong)
		wantNoPerm(t, slices.Repeat([]int{-1}, count), impl.ErrLong)
	}
}

// wrongPerms are no orders, but not too long.
func wrongPerms() [][]int {
	out := [][]int{nil, {1}, {-1}, {1, 1}, {0, 0}, {1, 2}, {0, 2}, {-1, 0}, {0, -1}, {1, 2, 3}, {0, 1, 1}, {2, 2, 0}}
	for n := 1; n <= 16; n++ {
		for at := range n {
			for _, wrong := range append(farNumbers(), -1, n, n+1, 16, 17, at+1, at-1) {
				if wrong != at {
					perm := numbersUpTo(n)
					perm[at] = wrong
					out = append(out, perm)
				}
			}
		}
	}
	for _, n := range []int{17, 18, 64, 256, impl.MaxList} {
		out = append(out, numbersUpTo(n), make([]int, n), slices.Repeat([]int{-1}, n))
	}
	return out
}

func TestP12NoOrders(t *testing.T) {
	for _, perm := range wrongPerms() {
		if rightPerm(perm) {
			t.Fatal("an order:", perm)
		}
		wantNoOrder(t, perm, impl.ErrBad)
	}
	for _, n := range []int{impl.MaxList + 1, 2 * impl.MaxList} {
		wantNoOrder(t, numbersUpTo(n), impl.ErrLong)
		wantNoOrder(t, make([]int, n), impl.ErrLong)
	}
}

// TestP12AllListsOfFewNumbers: those that are orders are all told right, and all others are refused.
func TestP12AllListsOfFewNumbers(t *testing.T) {
	for length := range 6 {
		eachNumbers(length+2, length, func(list []int) {
			perm := make([]int, length)
			for i, number := range list {
				perm[i] = number - 1
			}
			if !rightPerm(perm) {
				wantNoOrder(t, perm, impl.ErrBad)
				return
			}
			if choices, code := impl.ChoicesOf(perm); code != impl.OK || !slices.Equal(otherPerm(choices), perm) {
				t.Errorf("ChoicesOf of %v: %v, code %d", perm, choices, code)
			}
		})
	}
}

func TestP12ShufflesWrittenOut(t *testing.T) {
	wantShuffle(t, nil, 1, []int{0}, 0, impl.OK)
	wantShuffle(t, []int{65535, 7}, 1, []int{0}, 0, impl.OK)
	wantShuffle(t, []int{0}, 2, []int{1, 0}, 1, impl.OK)
	wantShuffle(t, []int{65535, 7}, 2, []int{0, 1}, 1, impl.OK)
	wantShuffle(t, []int{65535, 4, 1, 9}, 3, []int{0, 2, 1}, 3, impl.OK)
	wantShuffle(t, []int{65534, 65535}, 3, []int{0, 1, 2}, 2, impl.OK)
	wantShuffle(t, []int{65535, 65535, 65535, 0, 65535}, 3, []int{2, 1, 0}, 5, impl.OK)
	wantShuffle(t, []int{65535, 65535, 0, 0}, 4, []int{1, 2, 0, 3}, 4, impl.OK)
}

// TestP12ShuffleOfChoices: a word below the bound is the choice itself, and one bound more is the same choice.
func TestP12ShuffleOfChoices(t *testing.T) {
	for _, choices := range someChoices() {
		n := len(choices) + 1
		words, higher := slices.Clone(choices), make([]int, len(choices))
		for i, choice := range choices {
			higher[i] = choice + (n-i)*1000
		}
		for _, list := range [][]int{words, higher, append(words, 1, 2, 3), append(higher, 65535)} {
			wantShuffle(t, list, n, otherPerm(choices), len(choices), impl.OK)
		}
	}
}

// TestP12ShuffleAsUniformOf draws place by place by the program's own UniformOf.
func TestP12ShuffleAsUniformOf(t *testing.T) {
	for _, words := range shuffleWords() {
		for n := 1; n <= 16; n++ {
			var choices []int
			taken, wanted := 0, impl.OK
			for bound := n; bound > 1 && wanted == impl.OK; bound-- {
				choice, more, code := impl.UniformOf(words[taken:], bound)
				choices, taken, wanted = append(choices, choice), taken+more, code
			}
			if wanted != impl.OK {
				wantShuffle(t, words, n, nil, 0, impl.ErrMissing)
				continue
			}
			order, code := impl.PermOf(choices)
			wantShuffle(t, words, n, order, taken, code)
		}
	}
}

// shuffleWords are right words; some of them are passed over for most bounds, and some run out.
func shuffleWords() [][]int {
	out := [][]int{
		nil, {0}, {65535}, make([]int, 14), make([]int, 15), make([]int, 16), make([]int, 2000), slices.Repeat([]int{65535}, 2000),
		slices.Repeat([]int{65534}, 30), slices.Repeat([]int{65535, 7}, 15), slices.Repeat([]int{65520, 65531, 65535, 65528}, 20),
	}
	for _, seed := range someSeeds() {
		out = append(out, otherWords(seed, 15), otherWords(seed, 16), otherWords(seed, 40), otherWords(seed, 2000))
	}
	for last := 65510; last <= 65535; last++ {
		out = append(out, slices.Repeat([]int{last, 3}, 20), append(slices.Repeat([]int{last}, 16), numbersUpTo(40)...))
	}
	return out
}

func TestP12ShuffleOfManyWords(t *testing.T) {
	for _, words := range shuffleWords() {
		for n := 1; n <= 16; n++ {
			wantShuffleAsOther(t, words, n)
		}
	}
}

// TestP12ShuffleTakesWhatItNeeds: what lies behind has no part in it, and one word less is missing.
func TestP12ShuffleTakesWhatItNeeds(t *testing.T) {
	for _, words := range shuffleWords() {
		for n := 1; n <= 16; n++ {
			order, taken, code := otherShuffle(words, n)
			if code != impl.OK {
				continue
			}
			wantShuffle(t, words[:taken], n, order, taken, impl.OK)
			for short := range taken {
				wantShuffle(t, words[:short], n, nil, 0, impl.ErrMissing)
			}
		}
	}
}

// TestP12EachOrderIsDrawnEquallyOften: of all lists of words that lead on, as each number is.
func TestP12EachOrderIsDrawnEquallyOften(t *testing.T) {
	times := map[string]int{}
	for first := range 12 {
		for second := range 12 {
			for third := range 12 {
				order, taken, code := impl.ShuffleOf([]int{first, second, third}, 4)
				if code != impl.OK || taken != 3 {
					t.Fatal("ShuffleOf", order, taken, code)
				}
				times[fmt.Sprint(order)]++
			}
		}
	}
	if len(times) != 24 {
		t.Errorf("%d orders of four numbers", len(times))
	}
	for order, count := range times {
		if count != 12*12*12/24 {
			t.Errorf("%s is drawn %d times", order, count)
		}
	}
}

func TestP12ShuffleOfWrongNumbers(t *testing.T) {
	for _, n := range append(farNumbers(), -16, -1, 0, 17, 18, 64, 65535, 65536, math.MaxInt-1) {
		for _, words := range [][]int{nil, {1}, make([]int, 16), otherWords(someKey(), 2000)} {
			wantShuffle(t, words, n, nil, 0, impl.ErrRange)
		}
	}
}

// TestP12ShuffleOfWrongWords: they count ahead of n, and where no word is taken too.
func TestP12ShuffleOfWrongWords(t *testing.T) {
	for _, words := range wrongWordLists() {
		for _, n := range append(farNumbers(), -1, 0, 1, 2, 3, 16, 17) {
			wantShuffle(t, words, n, nil, 0, impl.ErrBad)
		}
	}
	for _, words := range longNumbers() {
		for _, n := range append(farNumbers(), -1, 0, 1, 16, 17) {
			wantShuffle(t, words, n, nil, 0, impl.ErrLong)
		}
	}
}
