package tests

import (
	"fmt"
	"slices"
	"testing"

	"loop.example/g00254/impl"
)

// madeOf seals the next form anew by what the server shares with the key ahead of the box: the secret makes it of the form
// if that is the form again.
func madeOf(t *testing.T, secret string, round int, form, next string) bool {
	t.Helper()
	if len(form) < 48 {
		return false
	}
	public := form[:32]
	key := otherDraw(t, libraryScalarMult(t, secret, public), round, "layer", 96)[:32]
	return form == public+string(otherBox(key, otherNonce(round), []byte(public), []byte(next)))
}

func otherChecked(t *testing.T, secrets []string, round int, forms []string) int {
	t.Helper()
	count := 0
	for hop, secret := range secrets {
		if madeOf(t, secret, round, forms[hop], forms[hop+1]) {
			count++
		}
	}
	return count
}

func wantFormsRight(t *testing.T, call string, secrets []string, round int, forms []string, want int) {
	t.Helper()
	if n, code := impl.CheckForms(secrets, round, forms); code != impl.OK || n != want {
		t.Errorf("CheckForms, %s, %d secrets, round %d, %s: %d, code %d; want %d", call, len(secrets), round, formsTold(forms), n, code, want)
	}
}

func wantNotChecked(t *testing.T, secrets []string, round int, forms []string, want int) {
	t.Helper()
	if n, code := impl.CheckForms(secrets, round, forms); code != want || n != 0 {
		t.Errorf("CheckForms of %d secrets %.100s, round %d, %s: %d, code %d; want nothing, code %d",
			len(secrets), told(secrets), round, formsTold(forms), n, code, want)
	}
}

func formsFor(t *testing.T, round, layers int, payload string) []string {
	t.Helper()
	return otherForms(round, otherHops(t, someKey(), round, keysFor(t, secretsOf(layers))), payload)
}

func TestP14CheckFormsOfWholeOnions(t *testing.T) {
	for _, layers := range layerCounts() {
		for _, size := range payloadSizes(layers) {
			wantFormsRight(t, "whole", secretsOf(layers), 7, formsFor(t, 7, layers, someText(size)), layers)
		}
		for _, round := range pairRounds() {
			forms := formsFor(t, round, layers, "payload")
			wantFormsRight(t, "whole", secretsOf(layers), round, forms, layers)
			for _, other := range pairRounds() {
				if other != round {
					wantFormsRight(t, fmt.Sprint("of round ", round), secretsOf(layers), other, forms, 0)
				}
			}
		}
		own, _ := impl.OnionForms(shareOf(3), 7, keysFor(t, secretsOf(layers)), []byte("payload"))
		wantFormsRight(t, "the program's own", secretsOf(layers), 7, own, layers)
	}
}

// TestP14CheckFormsOneChanged: a form counts for the hop that makes it and for the one that it is peeled by.
func TestP14CheckFormsOneChanged(t *testing.T) {
	for layers := 1; layers <= 4; layers++ {
		whole := formsFor(t, 7, layers, "the payload")
		for at, form := range whole {
			want := layers - 2
			if at == 0 || at == layers {
				want = layers - 1
			}
			for _, changed := range []string{flipped(form, 0), flipped(form, 8*len(form)-1), form[1:], form[:len(form)-1], form + "x", noughts(len(form)), "", someText(400)} {
				forms := slices.Clone(whole)
				forms[at] = changed
				wantFormsRight(t, fmt.Sprint("changed at ", at), secretsOf(layers), 7, forms, want)
			}
		}
	}
}

func TestP14CheckFormsOneSecretChanged(t *testing.T) {
	for layers := 1; layers <= 4; layers++ {
		forms := formsFor(t, 7, layers, "payload")
		for at := range layers {
			for _, wrong := range []string{noughts(32), ones(32), someKey(), secretOf(5), secretOf((at + 1) % 5), flipped(secretOf(at), 100)} {
				secrets := secretsOf(layers)
				secrets[at] = wrong
				wantFormsRight(t, fmt.Sprint("secret ", at, " changed"), secrets, 7, forms, layers-1)
			}
		}
	}
}

// TestP14CheckFormsByClampedBits: a secret counts as its server uses it.
func TestP14CheckFormsByClampedBits(t *testing.T) {
	forms := formsFor(t, 7, 3, "payload")
	for at := range 3 {
		for _, bit := range freeBits() {
			secrets := secretsOf(3)
			secrets[at] = flipped(secrets[at], bit)
			wantFormsRight(t, fmt.Sprint("bit ", bit, " of secret ", at), secrets, 7, forms, 3)
		}
	}
}

// TestP14CheckFormsInEachOrder holds all orders of forms, and of secrets, against the forms sealed anew.
func TestP14CheckFormsInEachOrder(t *testing.T) {
	for layers := 1; layers <= 4; layers++ {
		whole, secrets := formsFor(t, 7, layers, "payload"), secretsOf(layers)
		met := map[int]int{}
		for _, forms := range ordersOf(whole) {
			want := otherChecked(t, secrets, 7, forms)
			met[want]++
			wantFormsRight(t, "in another order", secrets, 7, forms, want)
		}
		for _, order := range ordersOf(secrets) {
			wantFormsRight(t, "secrets in another order", order, 7, whole, otherChecked(t, order, 7, whole))
		}
		if met[layers] != 1 || met[0] == 0 || layers > 2 && met[1] == 0 {
			t.Errorf("%d layers: so many forms in how many orders: %v", layers, met)
		}
	}
}

// TestP14CheckFormsCountsAll: those that are right behind a wrong one count too, and nothing counts for the other ones.
func TestP14CheckFormsCountsAll(t *testing.T) {
	secrets := secretsOf(4)
	first, second := formsFor(t, 7, 4, "payload"), otherForms(7, otherHops(t, shareOf(1), 7, keysFor(t, secrets)), "payload")
	eachNumbers(2, 5, func(from []int) {
		var forms []string
		want := 0
		for hop, k := range from {
			forms = append(forms, [][]string{first, second}[k][hop])
			// the last form is the same payload in both
			if hop > 0 && (k == from[hop-1] || hop == 4) {
				want++
			}
		}
		wantFormsRight(t, fmt.Sprint("from ", from), secrets, 7, forms, want)
	})
	wantFormsRight(t, "texts that are no onions", secrets, 7, []string{"a", "", someText(48), someText(400), "b"}, 0)
	wantFormsRight(t, "forms that are all alike", secrets, 7, slices.Repeat([]string{first[0]}, 5), 0)
	wantFormsRight(t, "empty forms", secrets, 7, make([]string, 5), 0)
}

func TestP14CheckFormsWithoutSecrets(t *testing.T) {
	for _, form := range []string{"", "a", someText(400), formsFor(t, 7, 1, "payload")[0]} {
		wantFormsRight(t, "without secrets", nil, 7, []string{form}, 0)
	}
	wantNotChecked(t, nil, 7, nil, impl.ErrBad)
	wantNotChecked(t, nil, 7, []string{"a", "b"}, impl.ErrBad)
	wantNotChecked(t, nil, 7, []string{someText(401)}, impl.ErrBad)
}

// TestP14CheckFormsOfOtherNumbers: one form more than secrets, at most MaxLayers of these.
func TestP14CheckFormsOfOtherNumbers(t *testing.T) {
	for secrets := range 8 {
		for forms := range 10 {
			if secrets <= 4 && forms == secrets+1 {
				wantFormsRight(t, "short texts", secretsOf(secrets), 7, someItems(forms, 5), 0)
			} else {
				wantNotChecked(t, secretsOf(secrets), 7, someItems(forms, 5), impl.ErrBad)
			}
		}
	}
	for _, count := range []int{5, 63, 64, 65, impl.MaxList - 1} {
		wantNotChecked(t, make([]string, count), 7, make([]string, count+1), impl.ErrBad)
	}
	wantNotChecked(t, secretsOf(4), 7, make([]string, impl.MaxList), impl.ErrBad)
	wantNotChecked(t, secretsOf(4), 7, make([]string, impl.MaxList+1), impl.ErrLong)
	wantNotChecked(t, make([]string, impl.MaxList), 7, make([]string, impl.MaxList+1), impl.ErrLong)
	wantNotChecked(t, make([]string, impl.MaxList+1), 7, make([]string, 5), impl.ErrLong)
}

func TestP14CheckFormsOfLongForms(t *testing.T) {
	for layers := range 5 {
		for at := range layers + 1 {
			forms := someItems(layers+1, 3)
			forms[at] = someText(400)
			wantFormsRight(t, "a form of most bytes", secretsOf(layers), 7, forms, 0)
			for _, size := range []int{401, 402, impl.MaxText, impl.MaxText + 1} {
				forms[at] = noughts(size)
				for _, round := range append(wrongRounds(), 7) {
					wantNotChecked(t, secretsOf(layers), round, forms, impl.ErrBad)
				}
			}
		}
	}
}

// TestP14CheckFormsInTheOrderOfCodes: ErrBad of numbers and forms, ErrRange of the round, ErrBad of secrets.
func TestP14CheckFormsInTheOrderOfCodes(t *testing.T) {
	for layers := 1; layers <= 4; layers++ {
		forms := formsFor(t, 7, layers, "payload")
		for _, round := range wrongRounds() {
			wantNotChecked(t, secretsOf(layers), round, forms, impl.ErrRange)
			wantNotChecked(t, secretsOf(layers), round, forms[1:], impl.ErrBad)
			wantNotChecked(t, make([]string, layers), round, forms, impl.ErrRange)
		}
		for _, wrong := range append(wrongLengths(), longTexts()...) {
			for at := range layers {
				secrets := secretsOf(layers)
				secrets[at] = wrong
				wantNotChecked(t, secrets, 7, forms, impl.ErrBad)
				wantNotChecked(t, secrets, -1, forms, impl.ErrRange)
				wantNotChecked(t, secrets, 1000001, forms[:layers], impl.ErrBad)
			}
		}
	}
}
