package tests

import (
	"encoding/binary"
	"fmt"
	"slices"
	"testing"

	"loop.example/g00254/impl"
)

func otherWords(seed string, n int) []int {
	var b []byte
	for counter := uint32(0); len(b) < 2*n; counter++ {
		b = append(b, libraryHash(binary.BigEndian.AppendUint32([]byte(seed), counter))...)
	}
	var out []int
	for pair := range slices.Chunk(b[:2*n], 2) {
		out = append(out, int(binary.BigEndian.Uint16(pair)))
	}
	return out
}

// otherUniform takes a word if the run of n words that it stands in is there as a whole.
func otherUniform(words []int, n int) (number, taken, code int) {
	for i, word := range words {
		if word/n*n+n <= 65536 {
			return word - word/n*n, i + 1, impl.OK
		}
	}
	return 0, 0, impl.ErrMissing
}

func wantWords(t *testing.T, seed string, n int) {
	t.Helper()
	if got, code := impl.Words(seed, n); code != impl.OK || !slices.Equal(got, otherWords(seed, n)) {
		t.Errorf("Words of %x, %d: %s, code %d", seed, n, told(got), code)
	}
}

func wantNoWords(t *testing.T, seed string, n, want int) {
	t.Helper()
	if got, code := impl.Words(seed, n); code != want || len(got) != 0 {
		t.Errorf("Words of %d bytes, %d: %s, code %d; want nothing, code %d", len(seed), n, told(got), code, want)
	}
}

func someSeeds() []string { return []string{noughts(32), ones(32), someKey(), shareOf(7)} }

func edgeCounts() []int {
	return []int{0, 1, 2, 15, 16, 17, 31, 32, 33, 64, 255, 256, 257, 1023, 1024, 1025, 1984, 1985, 1999, 2000}
}

func wrongCounts() []int { return append(farNumbers(), -1, 2001, 4096, 4097, 65536) }

func TestP8Words(t *testing.T) {
	for _, seed := range someSeeds() {
		for _, n := range edgeCounts() {
			wantWords(t, seed, n)
		}
		for _, n := range wrongCounts() {
			wantNoWords(t, seed, n, impl.ErrRange)
		}
	}
	for n := range 2001 {
		wantWords(t, someKey(), n)
	}
}

func TestP8WordsByTheProgramsOwnHash(t *testing.T) {
	seed := someKey()
	words, code := impl.Words(seed, 2000)
	if code != impl.OK || len(words) != 2000 {
		t.Fatalf("%d words, code %d", len(words), code)
	}
	for i, word := range words {
		h := hashOf(seed, string([]byte{0, 0, 0, byte(i / 16)}))
		if at := i % 16 * 2; word != int(h[at])*256+int(h[at+1]) {
			t.Errorf("word %d is %d", i, word)
		}
	}
}

func TestP8FewerWordsAreTheBeginning(t *testing.T) {
	for _, seed := range someSeeds() {
		all, _ := impl.Words(seed, impl.MaxWords)
		for _, n := range edgeCounts() {
			if some, code := impl.Words(seed, n); code != impl.OK || len(some) != n || !slices.Equal(some, all[:n]) {
				t.Errorf("%d words are not the beginning of all, code %d", n, code)
			}
		}
	}
}

func TestP8WordsOfWrongSeeds(t *testing.T) {
	for _, seed := range wrongLengths() {
		for _, n := range append(edgeCounts(), wrongCounts()...) {
			wantNoWords(t, seed, n, impl.ErrBad)
		}
	}
}

func wantUniform(t *testing.T, words []int, n, number, taken, code int) {
	t.Helper()
	if x, used, got := impl.UniformOf(words, n); x != number || used != taken || got != code {
		t.Errorf("UniformOf of %s, %d: %d, %d taken, code %d; want %d, %d, %d", told(words), n, x, used, got, number, taken, code)
	}
}

func wantUniformAsOther(t *testing.T, words []int, n int) {
	t.Helper()
	number, taken, code := otherUniform(words, n)
	wantUniform(t, words, n, number, taken, code)
}

func edgeBounds() []int {
	return []int{1, 2, 3, 4, 5, 7, 10, 16, 100, 255, 256, 257, 1000, 21845, 21846, 32767, 32768, 32769, 50000, 65534, 65535, 65536}
}

func wrongBounds() []int { return append(farNumbers(), -1, 0, -65536, 65537, 131072) }

// TestP8UniformAroundTheGreatestMultiple puts words just below it, at it and above it, alone and behind each other.
func TestP8UniformAroundTheGreatestMultiple(t *testing.T) {
	for _, n := range edgeBounds() {
		greatest := 65536 / n * n
		around := []int{0, 1, n - 1, n, greatest - n, greatest - 2, greatest - 1, greatest, greatest + 1, 65534, 65535}
		around = slices.DeleteFunc(around, func(word int) bool { return !within(word, 65535) })
		for _, a := range around {
			wantUniformAsOther(t, []int{a}, n)
			for _, b := range around {
				wantUniformAsOther(t, []int{a, b}, n)
				wantUniformAsOther(t, []int{65535, a, b, 0}, n)
			}
		}
		wantUniform(t, []int{greatest - 1, 7}, n, n-1, 1, impl.OK)
		if greatest < 65536 {
			wantUniform(t, []int{greatest}, n, 0, 0, impl.ErrMissing)
			wantUniform(t, []int{greatest, 65535, greatest - n}, n, 0, 3, impl.OK)
		}
	}
}

func TestP8UniformVectors(t *testing.T) {
	for _, x := range []struct {
		words                  []int
		n, number, taken, code int
	}{
		{[]int{65535}, 1, 0, 1, 0},
		{[]int{65535}, 2, 1, 1, 0},
		{[]int{65535, 65534}, 3, 2, 2, 0},
		{[]int{65535, 65534}, 255, 254, 2, 0},
		{[]int{65535}, 256, 255, 1, 0},
		{[]int{40000}, 32768, 7232, 1, 0},
		{[]int{32769, 65535, 32768, 5}, 32769, 32768, 3, 0},
		{[]int{65535, 65534}, 65535, 65534, 2, 0},
		{[]int{65535}, 65535, 0, 0, impl.ErrMissing},
		{[]int{65535}, 65536, 65535, 1, 0},
		{[]int{0}, 65536, 0, 1, 0},
	} {
		wantUniform(t, x.words, x.n, x.number, x.taken, x.code)
	}
}

func TestP8UniformOfManyWords(t *testing.T) {
	for _, n := range []int{1, 3, 32769, 40000, 65535, 65536} {
		for _, seed := range someSeeds() {
			words := otherWords(seed, 2000)
			for len(words) > 0 {
				wantUniformAsOther(t, words, n)
				_, taken, code := otherUniform(words, n)
				if code != impl.OK {
					break
				}
				words = words[taken:]
			}
		}
	}
}

func TestP8UniformWhereWordsRunOut(t *testing.T) {
	for _, n := range edgeBounds() {
		wantUniform(t, nil, n, 0, 0, impl.ErrMissing)
		greatest := 65536 / n * n
		for _, count := range []int{1, 2, 100, 1999, 2000} {
			if greatest < 65536 {
				wantUniform(t, slices.Repeat([]int{greatest}, count), n, 0, 0, impl.ErrMissing)
				wantUniform(t, append(slices.Repeat([]int{65535}, count-1), 0), n, 0, count, impl.OK)
			}
		}
	}
}

// wrongWordLists are too long, or have a number that is no word, at the beginning, in the middle or at the end.
func wrongWordLists() [][]int {
	out := [][]int{make([]int, 2001), slices.Repeat([]int{65535}, 2001), make([]int, impl.MaxList), otherWords(someKey(), 2050)}
	for _, wrong := range append(farNumbers(), -1, 65536, 65537) {
		out = append(out, []int{wrong}, []int{wrong, 0}, []int{0, wrong}, []int{1, wrong, 2})
		words := otherWords(someKey(), 2000)
		words[1999] = wrong
		out = append(out, words)
	}
	return out
}

func TestP8UniformOfWrongWords(t *testing.T) {
	for _, words := range wrongWordLists() {
		for _, n := range append(edgeBounds(), wrongBounds()...) {
			wantUniform(t, words, n, 0, 0, impl.ErrBad)
		}
	}
}

func TestP8UniformOfWrongBounds(t *testing.T) {
	for _, n := range wrongBounds() {
		for _, words := range [][]int{nil, {0}, {65535}, otherWords(someKey(), 2000), slices.Repeat([]int{65535}, 2000)} {
			wantUniform(t, words, n, 0, 0, impl.ErrRange)
		}
	}
}

func TestP8AcceptedWords(t *testing.T) {
	for _, x := range []struct{ n, want int }{
		{1, 65536}, {2, 32768}, {3, 21845}, {10, 6553}, {255, 257}, {256, 256}, {257, 255}, {32767, 2}, {32768, 2}, {32769, 1}, {65535, 1}, {65536, 1},
	} {
		if got, code := impl.AcceptedWords(x.n); got != x.want || code != impl.OK {
			t.Errorf("AcceptedWords of %d: %d, code %d; want %d", x.n, got, code, x.want)
		}
	}
	for n := 1; n <= 65536; n++ {
		got, code := impl.AcceptedWords(n)
		if code != impl.OK || got*n > 65536 || (got+1)*n <= 65536 {
			t.Errorf("AcceptedWords of %d: %d, code %d", n, got, code)
		}
	}
	for _, n := range wrongBounds() {
		if got, code := impl.AcceptedWords(n); got != 0 || code != impl.ErrRange {
			t.Errorf("AcceptedWords of %d: %d, code %d; want nothing, code %d", n, got, code, impl.ErrRange)
		}
	}
}

// TestP8AsManyWordsLeadToEachNumber counts all words, one by one.
func TestP8AsManyWordsLeadToEachNumber(t *testing.T) {
	for _, n := range edgeBounds() {
		counts := make([]int, n)
		for word := range 65536 {
			number, taken, code := impl.UniformOf([]int{word}, n)
			if code == impl.ErrMissing {
				continue
			}
			if code != impl.OK || taken != 1 || !within(number, n-1) {
				t.Fatalf("UniformOf of %d, %d: %d, %d taken, code %d", word, n, number, taken, code)
			}
			counts[number]++
		}
		want, _ := impl.AcceptedWords(n)
		if want < 1 || slices.Min(counts) != want || slices.Max(counts) != want {
			t.Errorf("below %d: from %d to %d words lead to a number; want %d", n, slices.Min(counts), slices.Max(counts), want)
		}
	}
}

// TestP8PairsOfWords: where the first word is left out, the second leads to each number as often.
func TestP8PairsOfWords(t *testing.T) {
	for _, n := range []int{3, 255, 32769, 65535} {
		counts := make([]int, n)
		for word := range 65536 {
			if number, taken, code := impl.UniformOf([]int{65535, word}, n); code == impl.OK && taken == 2 {
				counts[number]++
			}
		}
		if want := 65536 / n; slices.Min(counts) != want || slices.Max(counts) != want {
			t.Errorf("below %d: from %d to %d words lead to a number", n, slices.Min(counts), slices.Max(counts))
		}
	}
}

func otherRoute(seed string, user, onion int, widths []int) []int {
	words := otherWords(libraryHash([]byte(seed+string([]byte{byte(user), byte(onion)}))), 64)
	var out []int
	for _, width := range widths {
		number, taken, code := otherUniform(words, width)
		if code != impl.OK {
			number, taken = 0, len(words)
		}
		out, words = append(out, number), words[taken:]
	}
	return out
}

func wantRoute(t *testing.T, seed string, user, onion int, widths []int) {
	t.Helper()
	got, code := impl.RouteOf(seed, user, onion, widths)
	if code != impl.OK || !slices.Equal(got, otherRoute(seed, user, onion, widths)) {
		t.Errorf("RouteOf of %x, %d, %d, %v: %v, code %d; want %v", seed, user, onion, widths, got, code, otherRoute(seed, user, onion, widths))
		return
	}
	for i, server := range got {
		if !within(server, widths[i]-1) {
			t.Errorf("RouteOf of %x, %d, %d: server %d of %d", seed, user, onion, server, widths[i])
		}
	}
}

func wantNoRoute(t *testing.T, seed string, user, onion int, widths []int, want int) {
	t.Helper()
	if got, code := impl.RouteOf(seed, user, onion, widths); code != want || len(got) != 0 {
		t.Errorf("RouteOf of %d bytes, %d, %d, %s: %v, code %d; want nothing, code %d", len(seed), user, onion, told(widths), got, code, want)
	}
}

func rightWidths() [][]int {
	out := [][]int{nil, {1}, {16}, {1, 16}, {3, 5}, {16, 15, 14, 13, 12, 11, 10, 9}, {1, 2, 3, 4, 5, 6, 7, 8}, slices.Repeat([]int{1}, 8), slices.Repeat([]int{16}, 8)}
	for width := 1; width <= 16; width++ {
		out = append(out, []int{width, width, width, width, width})
	}
	return out
}

func wrongWidths() [][]int {
	out := [][]int{slices.Repeat([]int{3}, 9), slices.Repeat([]int{3}, 64), slices.Repeat([]int{1}, impl.MaxList), make([]int, 9)}
	for _, wrong := range append(farNumbers(), -1, 0, 17, 32) {
		out = append(out, []int{wrong}, []int{wrong, 3}, []int{3, wrong}, []int{3, wrong, 3, 3, 3, 3, 3, 3}, []int{3, 3, 3, 3, 3, 3, 3, wrong})
	}
	return out
}

func wrongUsers() []int { return append(farNumbers(), -1, -256, 256, 257, 65536) }

func TestP8Routes(t *testing.T) {
	for _, seed := range someSeeds() {
		for _, widths := range rightWidths() {
			for _, user := range []int{0, 1, 2, 127, 128, 254, 255} {
				for _, onion := range []int{0, 1, 2, 127, 128, 254, 255} {
					wantRoute(t, seed, user, onion, widths)
				}
			}
		}
	}
}

// TestP8RoutesOfAllUsers also goes where a word is left out: below 11 that are nine of all of them.
func TestP8RoutesOfAllUsers(t *testing.T) {
	left := 0
	for user := range 256 {
		for onion := range 256 {
			wantRoute(t, someKey(), user, onion, []int{11, 11, 11, 11, 11, 11, 11, 16})
			words := otherWords(hashOf(someKey(), string([]byte{byte(user), byte(onion)})), 7)
			if slices.Max(words) >= 65527 {
				left++
			}
		}
	}
	if left == 0 {
		t.Error("no word was left out")
	}
}

// TestP8RoutesByTheProgramsOwnDraws takes the numbers one behind the other.
func TestP8RoutesByTheProgramsOwnDraws(t *testing.T) {
	widths := []int{2, 3, 5, 7, 11, 13, 15, 16}
	for user := range 256 {
		route, code := impl.RouteOf(someKey(), user, 255-user, widths)
		words, _ := impl.Words(hashOf(someKey(), string([]byte{byte(user)}), string([]byte{byte(255 - user)})), 64)
		for i, width := range widths {
			number, taken, _ := impl.UniformOf(words, width)
			words = words[taken:]
			if code != impl.OK || len(route) != 8 || route[i] != number {
				t.Fatalf("route %v of user %d, code %d: server %d is not %d", route, user, code, i, number)
			}
		}
	}
}

// TestP8ShorterRoutesAreTheBeginning: a layer more does not change those ahead of it.
func TestP8ShorterRoutesAreTheBeginning(t *testing.T) {
	widths := []int{16, 15, 14, 13, 12, 11, 10, 9}
	whole, _ := impl.RouteOf(someKey(), 3, 4, widths)
	for n := range 9 {
		if route, code := impl.RouteOf(someKey(), 3, 4, widths[:n]); code != impl.OK || len(route) != n || !slices.Equal(route, whole[:n]) {
			t.Errorf("route of %d layers: %v, code %d; of all %v", n, route, code, whole)
		}
	}
}

func TestP8RoutesOfWrongSeeds(t *testing.T) {
	for _, seed := range wrongLengths() {
		for _, widths := range append(rightWidths(), wrongWidths()...) {
			wantNoRoute(t, seed, 0, 255, widths, impl.ErrBad)
		}
		for _, wrong := range wrongUsers() {
			wantNoRoute(t, seed, wrong, 0, []int{3}, impl.ErrBad)
			wantNoRoute(t, seed, 0, wrong, []int{17}, impl.ErrBad)
		}
	}
}

func TestP8RoutesOutOfBounds(t *testing.T) {
	for _, wrong := range wrongUsers() {
		for _, widths := range append(rightWidths(), wrongWidths()...) {
			wantNoRoute(t, someKey(), wrong, 0, widths, impl.ErrRange)
			wantNoRoute(t, someKey(), 255, wrong, widths, impl.ErrRange)
			wantNoRoute(t, someKey(), wrong, wrong, widths, impl.ErrRange)
		}
	}
	for _, widths := range wrongWidths() {
		for _, user := range []int{0, 1, 255} {
			wantNoRoute(t, someKey(), user, 255-user, widths, impl.ErrRange)
		}
	}
}

// TestP8RoutesOfEveryWidth asks that each server below a width is drawn for some user.
func TestP8RoutesOfEveryWidth(t *testing.T) {
	for width := 1; width <= 16; width++ {
		met := map[int]int{}
		for user := range 256 {
			route, _ := impl.RouteOf(shareOf(3), user, 9, []int{width})
			for _, server := range route {
				met[server]++
			}
		}
		if len(met) != width {
			t.Errorf("below %d: %s", width, fmt.Sprint(met))
		}
	}
}
