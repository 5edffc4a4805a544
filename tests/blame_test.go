package tests

import (
	"fmt"
	"slices"
	"strings"
	"testing"

	"loop.example/g00254/impl"
)

func wantBlame(t *testing.T, call string, forms []string, batches [][]string, want impl.Verdict) {
	t.Helper()
	if v, code := impl.BlameHop(forms, batches); code != impl.OK || v != want {
		t.Errorf("BlameHop, %s, %s, %.300s: %+v, code %d; want %+v", call, formsTold(forms), batchesTold(batches), v, code, want)
	}
}

func wantNoVerdict(t *testing.T, forms []string, batches [][]string, want int) {
	t.Helper()
	if v, code := impl.BlameHop(forms, batches); code != want || v != (impl.Verdict{}) {
		t.Errorf("BlameHop of %d forms, %d batches: %+v, code %d; want nothing, code %d", len(forms), len(batches), v, code, want)
	}
}

func blamed(hop int) impl.Verdict { return impl.Verdict{Hop: hop, Lost: true} }

func TestP14BlameWrittenOut(t *testing.T) {
	forms := []string{"a", "b", "c"}
	for _, x := range []struct {
		batches [][]string
		want    impl.Verdict
	}{
		{[][]string{{"a"}, {"b"}, {"c"}}, impl.Verdict{}},
		{[][]string{{"a"}, {"b"}, nil}, blamed(1)},
		{[][]string{{"a"}, nil, nil}, blamed(0)},
		{[][]string{nil, nil, nil}, impl.Verdict{}},
		{[][]string{nil, {"b"}, {"c"}}, impl.Verdict{}},
		{[][]string{nil, {"b"}, nil}, blamed(1)},
		{[][]string{nil, nil, {"c"}}, impl.Verdict{}},
		{[][]string{{"a"}, nil, {"c"}}, blamed(0)},
		{[][]string{{"a"}, {"a"}, {"a"}}, blamed(0)},
		{[][]string{{"a", "b", "c"}, {"a", "b", "c"}, {"a", "b"}}, blamed(1)},
		{[][]string{{"c"}, {"b"}, {"a"}}, blamed(1)},
		{[][]string{{"x", "a"}, {"b", "y"}, {"z", "c", "c"}}, impl.Verdict{}},
		{[][]string{{"aa"}, {"b"}, {"c"}}, impl.Verdict{}},
		{[][]string{{"a"}, {"bb"}, {"c"}}, blamed(0)},
		{[][]string{{"a"}, {"b"}, {""}}, blamed(1)},
	} {
		wantBlame(t, "written out", forms, x.batches, x.want)
	}
}

// otherVerdict writes 1 for a batch that has its form and 0 for one that has not, and looks where a 1 stands ahead of a 0.
func otherVerdict(has []int) impl.Verdict {
	at := strings.Index(strings.Trim(strings.ReplaceAll(fmt.Sprint(has), " ", ""), "[]"), "10")
	if at < 0 {
		return impl.Verdict{}
	}
	return blamed(at)
}

// batchesWith has in each batch the forms of all other hops, and its own one, in the middle, where it is to have it.
func batchesWith(forms []string, has []int) [][]string {
	var out [][]string
	for hop := range forms {
		batch := slices.Concat(forms[:hop], []string{"other"}, forms[hop+1:])
		if has[hop] == 1 {
			batch[hop] = forms[hop]
		}
		out = append(out, batch)
	}
	return out
}

// TestP14BlameInEachCase takes every choice of batches that have their forms.
func TestP14BlameInEachCase(t *testing.T) {
	for count := range 6 {
		forms := append(wayOf(t, 0, 0, 1, 2), "", "the last one")[:count]
		eachNumbers(2, count, func(has []int) {
			want := otherVerdict(has)
			wantBlame(t, fmt.Sprint("has ", has), forms, batchesWith(forms, has), want)
			var alone [][]string
			for hop, form := range forms {
				alone = append(alone, slices.Repeat([]string{form}, has[hop]))
			}
			wantBlame(t, fmt.Sprint("has alone ", has), forms, alone, want)
		})
	}
}

func TestP14BlameNobodyWithoutForms(t *testing.T) {
	wantBlame(t, "nothing", nil, nil, impl.Verdict{})
	for _, batch := range [][]string{nil, {"a"}, {"b"}, {""}, someItems(64, 400)} {
		wantBlame(t, "the last batch alone", []string{"a"}, [][]string{batch}, impl.Verdict{})
		wantBlame(t, "the last batch alone", []string{""}, [][]string{batch}, impl.Verdict{})
	}
}

// TestP14BlameWithFormsThatAreAlike: what a batch has it has for each hop.
func TestP14BlameWithFormsThatAreAlike(t *testing.T) {
	for count := 1; count <= 5; count++ {
		for _, form := range []string{"", "a", someText(400)} {
			forms := slices.Repeat([]string{form}, count)
			eachNumbers(2, count, func(has []int) {
				var batches [][]string
				for _, n := range has {
					batches = append(batches, append([]string{"other"}, slices.Repeat([]string{form}, 2*n)...))
				}
				wantBlame(t, "all alike", forms, batches, otherVerdict(has))
			})
		}
	}
}

// TestP14BlameInEachPlaceOfABatch: wherever a form stands among MaxItems it is there.
func TestP14BlameInEachPlaceOfABatch(t *testing.T) {
	forms := wayOf(t, 0, 0)
	for at := range 64 {
		first, second := someItems(64, 5), someItems(64, 5)
		second[at] = forms[1]
		wantBlame(t, "not there", forms, [][]string{first, second}, impl.Verdict{})
		first[at] = forms[0]
		wantBlame(t, "handed on", forms, [][]string{first, second}, impl.Verdict{})
		second[at] = flipped(forms[1], 3)
		wantBlame(t, "changed", forms, [][]string{first, second}, blamed(0))
	}
}

func withoutForm(batch []string, form string) []string {
	return slices.DeleteFunc(slices.Clone(batch), func(item string) bool { return item == form })
}

// TestP14BlameNobodyWhereAllHandOn: each sender's forms in the batches of honest hops, with others and bad ones beside.
func TestP14BlameNobodyWhereAllHandOn(t *testing.T) {
	for _, layers := range layerCounts() {
		ways := append(waysOf(t, 9, layers), way{"bad"}, way{""})
		batches := wantHonest(t, "to be blamed", layers, ways)
		for sender := range 9 {
			keys := keysFor(t, secretsOf(layers))
			forms, code := impl.OnionForms(shareOf(sender), blameRound, keys, []byte(payloadOf(sender)))
			if code != impl.OK {
				t.Fatal("OnionForms", code)
			}
			wantBlame(t, "honest", forms, batches, impl.Verdict{})
			wantFormsRight(t, "honest", secretsOf(layers), blameRound, forms, layers)
		}
	}
}

// TestP14BlameTheHopThatLoses takes a sender's forms out of all batches behind a hop; those of the others stay.
func TestP14BlameTheHopThatLoses(t *testing.T) {
	for _, layers := range layerCounts() {
		ways := waysOf(t, 5, layers)
		for _, forms := range ways {
			for hop := range layers {
				batches := otherHonest(ways, layers)
				for behind := hop + 1; behind <= layers; behind++ {
					batches[behind] = withoutForm(batches[behind], forms[behind])
				}
				wantBlame(t, fmt.Sprint("lost behind ", hop), forms, batches, blamed(hop))
			}
		}
	}
}

// TestP14BlameTheFirstOfThoseWhoLose takes a sender's forms out of any of the batches.
func TestP14BlameTheFirstOfThoseWhoLose(t *testing.T) {
	for _, layers := range layerCounts() {
		ways := waysOf(t, 3, layers)
		eachNumbers(2, layers+1, func(has []int) {
			for _, forms := range ways {
				batches := otherHonest(ways, layers)
				for hop, n := range has {
					if n == 0 {
						batches[hop] = withoutForm(batches[hop], forms[hop])
					}
				}
				wantBlame(t, fmt.Sprint("has ", has), forms, batches, otherVerdict(has))
			}
		})
	}
}

// TestP14BlameAloneOfItsOwnOnion: what is lost of one sender blames nobody for another one.
func TestP14BlameAloneOfItsOwnOnion(t *testing.T) {
	ways := waysOf(t, 4, 3)
	batches := otherHonest(ways, 3)
	batches[2], batches[3] = withoutForm(batches[2], ways[1][2]), withoutForm(batches[3], ways[1][3])
	for sender, forms := range ways {
		want := impl.Verdict{}
		if sender == 1 {
			want = blamed(1)
		}
		wantBlame(t, fmt.Sprint("of sender ", sender), forms, batches, want)
	}
}

// TestP14BlameByWhatHopsReallyMix takes the batches of mixes that shuffle and put noise in; one of them loses an item.
func TestP14BlameByWhatHopsReallyMix(t *testing.T) {
	ways, words := waysOf(t, 6, 3), otherWords(someKey(), 300)
	for loses := -1; loses < 3; loses++ {
		batches := [][]string{wholeItems(ways)}
		for hop, secret := range secretsOf(3) {
			x, code := impl.MixItems(secret, blameRound, batches[hop], noiseItems(hop+1), nil, words[10*hop:])
			if code != impl.OK {
				t.Fatal("MixItems", code)
			}
			if hop == loses {
				x.Items = withoutForm(x.Items, ways[2][hop+1])
			}
			batches = append(batches, x.Items)
		}
		for sender, forms := range ways {
			want := impl.Verdict{}
			if sender == 2 && loses >= 0 {
				want = blamed(loses)
			}
			wantBlame(t, fmt.Sprint("hop ", loses, " loses, sender ", sender), forms, batches, want)
		}
	}
}

func TestP14BlameOfOtherNumbers(t *testing.T) {
	for forms := range 8 {
		for batches := range 8 {
			if forms == batches && forms <= 5 {
				wantBlame(t, "empty batches", someItems(forms, 3), make([][]string, batches), impl.Verdict{})
			} else {
				wantNoVerdict(t, someItems(forms, 3), make([][]string, batches), impl.ErrBad)
			}
		}
	}
	for _, count := range []int{6, 64, 65, impl.MaxList} {
		wantNoVerdict(t, make([]string, count), make([][]string, count), impl.ErrBad)
		wantNoVerdict(t, make([]string, count), make([][]string, 5), impl.ErrBad)
		wantNoVerdict(t, make([]string, 5), make([][]string, count), impl.ErrBad)
	}
	for _, count := range []int{impl.MaxList + 1, 2 * impl.MaxList} {
		wantNoVerdict(t, make([]string, count), make([][]string, count), impl.ErrLong)
		wantNoVerdict(t, make([]string, count), make([][]string, 5), impl.ErrLong)
		wantNoVerdict(t, make([]string, 5), make([][]string, count), impl.ErrLong)
		wantNoVerdict(t, []string{noughts(401)}, make([][]string, count), impl.ErrLong)
	}
}

// TestP14BlameOfWrongForms: one of MaxItem bytes is right, wherever it stands; of one more it is not.
func TestP14BlameOfWrongForms(t *testing.T) {
	for count := 1; count <= 5; count++ {
		for at := range count {
			forms, batches := someItems(count, 3), make([][]string, count)
			forms[at] = noughts(400)
			wantBlame(t, "a long form", forms, batches, impl.Verdict{})
			for _, size := range []int{401, 402, impl.MaxText, impl.MaxText + 1} {
				forms[at] = noughts(size)
				wantNoVerdict(t, forms, batches, impl.ErrBad)
			}
		}
	}
}

// TestP14BlameOfWrongBatches: a batch as in chapter 7 is right in each place; a wrong one is wrong behind a verdict too.
func TestP14BlameOfWrongBatches(t *testing.T) {
	for count := 1; count <= 5; count++ {
		for at := range count {
			forms, batches := someItems(count, 3), make([][]string, count)
			for _, batch := range [][]string{someItems(64, 400), unevenItems(64), {noughts(400)}, make([]string, 64)} {
				batches[at] = batch
				wantBlame(t, "a great batch", forms, batches, impl.Verdict{})
			}
			for _, batch := range append(wrongItems(), make([]string, impl.MaxList+1)) {
				batches[at] = batch
				wantNoVerdict(t, forms, batches, impl.ErrBad)
			}
			if at >= 2 {
				batches[0] = forms[:1]
				wantNoVerdict(t, forms, batches, impl.ErrBad)
			}
		}
	}
}
