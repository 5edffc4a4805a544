package tests

import (
	"fmt"
	"slices"
	"strings"
	"testing"

	"loop.example/g00254/impl"
)

// dropNamed has 8 bytes, other ones for each number.
func dropNamed(k int) string { return libraryHash(fmt.Append(nil, "drop ", k))[:8] }

// dropsNamed has the drop of each number.
func dropsNamed(numbers []int) []string {
	var out []string
	for _, k := range numbers {
		out = append(out, dropNamed(k))
	}
	return out
}

// otherHistogram sorts the drops and measures how long those that are alike go on.
func otherHistogram(drops []string) impl.Histogram {
	var h impl.Histogram
	sorted := slices.Sorted(slices.Values(drops))
	for len(sorted) > 0 {
		run := 1
		for run < len(sorted) && sorted[run] == sorted[0] {
			run++
		}
		switch run {
		case 1:
			h.Ones++
		case 2:
			h.Twos++
		default:
			h.More++
		}
		sorted = sorted[run:]
	}
	return h
}

func wantHistogram(t *testing.T, drops []string, want impl.Histogram) {
	t.Helper()
	if h, code := impl.AccessHistogram(drops); code != impl.OK || h != want {
		t.Errorf("AccessHistogram of %d drops %s: %+v, code %d; want %+v", len(drops), told(drops), h, code, want)
	}
}

func wantNoHistogram(t *testing.T, drops []string, want int) {
	t.Helper()
	if h, code := impl.AccessHistogram(drops); code != want || h != (impl.Histogram{}) {
		t.Errorf("AccessHistogram of %d drops %s: %+v, code %d; want nothing, code %d", len(drops), told(drops), h, code, want)
	}
}

func TestP13HistogramsWrittenOut(t *testing.T) {
	for _, x := range []struct {
		drops string
		want  impl.Histogram
	}{
		{"", impl.Histogram{}},
		{"a", impl.Histogram{Ones: 1}},
		{"aa", impl.Histogram{Twos: 1}},
		{"ab", impl.Histogram{Ones: 2}},
		{"aaa", impl.Histogram{More: 1}},
		{"aaaa", impl.Histogram{More: 1}},
		{"aba", impl.Histogram{Ones: 1, Twos: 1}},
		{"abba", impl.Histogram{Twos: 2}},
		{"ababa", impl.Histogram{Twos: 1, More: 1}},
		{"abacabad", impl.Histogram{Ones: 2, Twos: 1, More: 1}},
		{"aabbbccccdddddeeeeeef", impl.Histogram{Ones: 1, Twos: 1, More: 4}},
		{"abcdefghabcdefgh", impl.Histogram{Twos: 8}},
	} {
		var drops []string
		for _, letter := range strings.Split(x.drops, "") {
			drops = append(drops, strings.Repeat(letter, 8))
		}
		wantHistogram(t, drops, x.want)
	}
}

// TestP13HistogramsOfShortLists takes every list of up to seven of three drops.
func TestP13HistogramsOfShortLists(t *testing.T) {
	for length := range 8 {
		eachNumbers(3, length, func(numbers []int) {
			drops := dropsNamed(numbers)
			wantHistogram(t, drops, otherHistogram(drops))
		})
	}
}

// alikeDrops differ in one byte, or in one bit, from each other.
func alikeDrops() []string {
	out := []string{noughts(8), ones(8), "aaaaaaaa", "AAAAAAAA", "\xc3\xa9\xc3\xa9\xc3\xa9\xc3\xa9", "        "}
	for i := range 8 {
		b := []byte(noughts(8))
		b[i] = 1
		out = append(out, string(b))
	}
	for bit := range 8 {
		out = append(out, flipped(ones(8), 8*bit+7))
	}
	return out
}

func TestP13DropsThatAreAlmostAlike(t *testing.T) {
	drops := alikeDrops()
	n := len(drops)
	wantHistogram(t, drops, impl.Histogram{Ones: n})
	wantHistogram(t, append(drops, drops...), impl.Histogram{Twos: n})
	wantHistogram(t, slices.Repeat(drops[:16], 4), impl.Histogram{More: 16})
	wantHistogram(t, append(drops, drops[3]), impl.Histogram{Ones: n - 1, Twos: 1})
}

// TestP13HistogramsInAnyOrder: the order of the list has no part in it.
func TestP13HistogramsInAnyOrder(t *testing.T) {
	for _, drops := range [][]string{
		dropsNamed([]int{0, 1, 1, 2, 2, 2, 3, 3, 3, 3}), dropsNamed([]int{5, 5, 6, 7, 7, 8}), manyDrops(64, 20), manyDrops(63, 40),
	} {
		want := otherHistogram(drops)
		for turn := range drops {
			turned := append(slices.Clone(drops[turn:]), drops[:turn]...)
			wantHistogram(t, turned, want)
			slices.Reverse(turned)
			wantHistogram(t, turned, want)
		}
		wantHistogram(t, slices.Sorted(slices.Values(drops)), want)
	}
}

// manyDrops are count accesses of up to kinds drops, more often of the first ones.
func manyDrops(count, kinds int) []string {
	var numbers []int
	for i := range count {
		numbers = append(numbers, i*i%kinds)
	}
	return dropsNamed(numbers)
}

func TestP13HistogramsOfEachLength(t *testing.T) {
	for count := range 65 {
		wantHistogram(t, dropsNamed(numbersUpTo(count)), impl.Histogram{Ones: count})
		for _, kinds := range []int{1, 2, 3, 7, 31, 32, 33, 64} {
			drops := manyDrops(count, kinds)
			wantHistogram(t, drops, otherHistogram(drops))
		}
	}
	for times := 1; times <= 64; times++ {
		want := impl.Histogram{More: 1}
		switch times {
		case 1:
			want = impl.Histogram{Ones: 1}
		case 2:
			want = impl.Histogram{Twos: 1}
		}
		wantHistogram(t, slices.Repeat([]string{dropNamed(1)}, times), want)
	}
}

// TestP13HistogramsSumUp: each drop counts once, however often it stands there.
func TestP13HistogramsSumUp(t *testing.T) {
	for kinds := 1; kinds <= 64; kinds++ {
		drops := manyDrops(64, kinds)
		different := slices.Compact(slices.Sorted(slices.Values(drops)))
		h, code := impl.AccessHistogram(drops)
		if code != impl.OK || h.Ones+h.Twos+h.More != len(different) || h.Ones+2*h.Twos+3*h.More > len(drops) {
			t.Errorf("AccessHistogram of %d drops, %d different: %+v, code %d", len(drops), len(different), h, code)
		}
	}
}

func wrongDrops() []string {
	return []string{"", "a", someText(7), someText(9), someText(16), someText(400), someText(impl.MaxText), someText(impl.MaxText + 1)}
}

func TestP13HistogramsOfWrongDrops(t *testing.T) {
	for _, wrong := range wrongDrops() {
		wantNoHistogram(t, []string{wrong}, impl.ErrBad)
		for at := range 64 {
			drops := manyDrops(64, 20)
			drops[at] = wrong
			wantNoHistogram(t, drops, impl.ErrBad)
		}
	}
}

func TestP13HistogramsOfManyDrops(t *testing.T) {
	wantHistogram(t, manyDrops(64, 64), otherHistogram(manyDrops(64, 64)))
	for _, count := range []int{65, 66, 128, 255, 256, 257, impl.MaxList - 1, impl.MaxList} {
		wantNoHistogram(t, manyDrops(count, 10), impl.ErrBad)
		wantNoHistogram(t, make([]string, count), impl.ErrBad)
	}
	for _, count := range []int{impl.MaxList + 1, 2 * impl.MaxList} {
		wantNoHistogram(t, manyDrops(count, 10), impl.ErrLong)
		wantNoHistogram(t, make([]string, count), impl.ErrLong)
	}
}

// accessesOf has at each place an access of the drop of that number, with a body that no other has.
func accessesOf(numbers ...int) []impl.Access {
	var out []impl.Access
	for place, k := range numbers {
		out = append(out, impl.Access{Drop: dropNamed(k), Body: fmt.Sprint("body ", place)})
	}
	return out
}

// otherExchange looks for each one through the whole list for those that have its drop.
func otherExchange(list []impl.Access) []string {
	var out []string
	for place, a := range list {
		var places []int
		for other, b := range list {
			if a.Drop == b.Drop {
				places = append(places, other)
			}
		}
		body := ""
		if len(places) > 1 && place == places[0] {
			body = list[places[1]].Body
		} else if len(places) > 1 && place == places[1] {
			body = list[places[0]].Body
		}
		out = append(out, body)
	}
	return out
}

func wantExchanged(t *testing.T, list []impl.Access, want []string) {
	t.Helper()
	if got, code := impl.ExchangeDrops(list); code != impl.OK || !slices.Equal(got, want) {
		t.Errorf("ExchangeDrops of %d accesses %s: %.300q, code %d; want %.300q", len(list), told(list), got, code, want)
	}
}

func wantNotExchanged(t *testing.T, list []impl.Access, want int) {
	t.Helper()
	if got, code := impl.ExchangeDrops(list); code != want || len(got) != 0 {
		t.Errorf("ExchangeDrops of %d accesses %s: %.300q, code %d; want nothing, code %d", len(list), told(list), got, code, want)
	}
}

func TestP13ExchangesWrittenOut(t *testing.T) {
	for _, x := range []struct {
		numbers []int
		want    []string
	}{
		{nil, nil},
		{[]int{0}, []string{""}},
		{[]int{0, 1}, []string{"", ""}},
		{[]int{0, 0}, []string{"body 1", "body 0"}},
		{[]int{0, 0, 0}, []string{"body 1", "body 0", ""}},
		{[]int{0, 0, 0, 0}, []string{"body 1", "body 0", "", ""}},
		{[]int{0, 0, 0, 0, 0}, []string{"body 1", "body 0", "", "", ""}},
		{[]int{0, 1, 0, 1}, []string{"body 2", "body 3", "body 0", "body 1"}},
		{[]int{0, 1, 1, 0}, []string{"body 3", "body 2", "body 1", "body 0"}},
		{[]int{0, 1, 2, 0, 2, 2}, []string{"body 3", "", "body 4", "body 0", "body 2", ""}},
		{[]int{3, 0, 3, 1, 3, 0, 3, 1, 0}, []string{"body 2", "body 5", "body 0", "body 7", "", "body 1", "", "body 3", ""}},
	} {
		wantExchanged(t, accessesOf(x.numbers...), x.want)
	}
}

// TestP13ExchangesOfShortLists takes every list of up to eight accesses of three drops.
func TestP13ExchangesOfShortLists(t *testing.T) {
	for length := range 9 {
		eachNumbers(3, length, func(numbers []int) {
			list := accessesOf(numbers...)
			wantExchanged(t, list, otherExchange(list))
		})
	}
}

// TestP13WhoAloneSharesADrop: where two share a drop each gets what the other one has, wherever they stand and whoever
// stands around them.
func TestP13WhoAloneSharesADrop(t *testing.T) {
	for _, others := range [][]int{slices.Repeat([]int{9}, 64), numbersUpTo(64), slices.Repeat([]int{1, 2}, 32), slices.Repeat([]int{1, 2, 3, 4, 5}, 13)[:64]} {
		for _, first := range []int{0, 1, 2, 31, 62} {
			for second := first + 1; second < 64; second++ {
				numbers := slices.Clone(others)
				numbers[first], numbers[second] = 100, 100
				list := accessesOf(numbers...)
				got, code := impl.ExchangeDrops(list)
				if code != impl.OK || len(got) != 64 || got[first] != list[second].Body || got[second] != list[first].Body {
					t.Errorf("ExchangeDrops of two at %d and %d: %.300q, code %d", first, second, got, code)
				}
				wantExchanged(t, list, otherExchange(list))
			}
		}
	}
}

func TestP13ExchangesOfEachLength(t *testing.T) {
	for count := range 65 {
		for _, kinds := range []int{1, 2, 3, 7, 32, 33, 64} {
			var numbers []int
			for i := range count {
				numbers = append(numbers, i*i%kinds)
			}
			list := accessesOf(numbers...)
			wantExchanged(t, list, otherExchange(list))
		}
		wantExchanged(t, accessesOf(numbersUpTo(count)...), make([]string, count))
	}
}

// TestP13ExchangedBodies: they may be empty, alike, of any bytes and of up to 400 of them.
func TestP13ExchangedBodies(t *testing.T) {
	bodies := []string{"", "a", "\x00", noughts(400), ones(400), someText(399), someText(400), dropNamed(0), "body 0"}
	for _, a := range bodies {
		for _, b := range bodies {
			list := []impl.Access{{Drop: dropNamed(0), Body: a}, {Drop: dropNamed(1), Body: "alone"}, {Drop: dropNamed(0), Body: b}, {Drop: dropNamed(0), Body: "third"}}
			wantExchanged(t, list, []string{b, "", a, ""})
		}
	}
	wantExchanged(t, slices.Repeat([]impl.Access{{Drop: dropNamed(0)}}, 5), make([]string, 5))
	list := accessesOf(append(numbersUpTo(32), turnedRound(numbersUpTo(32))...)...)
	for place := range list {
		list[place].Body = someText(400 - place)
	}
	wantExchanged(t, list, otherExchange(list))
}

// TestP13ExchangesOfAlmostAlikeDrops: none of them is taken for another one, nor for a body.
func TestP13ExchangesOfAlmostAlikeDrops(t *testing.T) {
	drops := alikeDrops()
	var once, twice []impl.Access
	for i, drop := range drops {
		once = append(once, impl.Access{Drop: drop, Body: drops[(i+1)%len(drops)]})
	}
	wantExchanged(t, once, make([]string, len(once)))
	for _, drop := range turnedRound(drops) {
		twice = append(twice, impl.Access{Drop: drop, Body: "to " + drop})
	}
	list := append(once, twice...)
	wantExchanged(t, list, otherExchange(list))
}

func TestP13ExchangesOfWrongAccesses(t *testing.T) {
	wrong := []impl.Access{{}, {Drop: dropNamed(0), Body: noughts(401)}, {Drop: dropNamed(0), Body: someText(impl.MaxText + 1)}, {Drop: someText(7), Body: noughts(401)}}
	for _, drop := range wrongDrops() {
		wrong = append(wrong, impl.Access{Drop: drop, Body: "body"})
	}
	for _, a := range wrong {
		wantNotExchanged(t, []impl.Access{a}, impl.ErrBad)
		for at := range 64 {
			list := accessesOf(numbersUpTo(64)...)
			list[at] = a
			wantNotExchanged(t, list, impl.ErrBad)
		}
	}
}

func TestP13ExchangesOfManyAccesses(t *testing.T) {
	wantExchanged(t, accessesOf(slices.Repeat([]int{4}, 64)...), append([]string{"body 1", "body 0"}, make([]string, 62)...))
	for _, count := range []int{65, 66, 128, 255, 256, 257, impl.MaxList - 1, impl.MaxList} {
		wantNotExchanged(t, accessesOf(numbersUpTo(count)...), impl.ErrBad)
		wantNotExchanged(t, make([]impl.Access, count), impl.ErrBad)
	}
	for _, count := range []int{impl.MaxList + 1, 2 * impl.MaxList} {
		wantNotExchanged(t, accessesOf(numbersUpTo(count)...), impl.ErrLong)
		wantNotExchanged(t, make([]impl.Access, count), impl.ErrLong)
	}
}
