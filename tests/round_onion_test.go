package tests

import (
	"fmt"
	"testing"

	"loop.example/g00254/impl"
)

func otherServer(seed string, layer int) string {
	return libraryHash([]byte("server" + seed + string([]byte{byte(layer)})))
}

func otherServers(seed string, layers int) []string {
	var out []string
	for layer := range layers {
		out = append(out, otherServer(seed, layer))
	}
	return out
}

func TestP15ServerSecrets(t *testing.T) {
	times := map[string]int{}
	for _, seed := range append(someSeeds(), flipped(someKey(), 0), flipped(someKey(), 255)) {
		for layer := range 4 {
			secret, code := impl.ServerSecret(seed, layer)
			wantText(t, fmt.Sprintf("ServerSecret of %x, %d", seed, layer), secret, code, otherServer(seed, layer))
			times[secret]++
		}
	}
	if len(times) != 6*4 {
		t.Errorf("%d different secrets", len(times))
	}
}

// TestP15ServerSecretCodes: ErrLong ahead of ErrBad, that one ahead of ErrRange.
func TestP15ServerSecretCodes(t *testing.T) {
	layers := append(wrongHops(), 0, 1, 2, 3)
	for _, layer := range layers {
		for _, seed := range wrongLengths() {
			secret, code := impl.ServerSecret(seed, layer)
			wantCode(t, fmt.Sprintf("ServerSecret of %d bytes, %d", len(seed), layer), secret, code, impl.ErrBad)
		}
		for _, seed := range longTexts() {
			secret, code := impl.ServerSecret(seed, layer)
			wantCode(t, fmt.Sprintf("ServerSecret of %d bytes, %d", len(seed), layer), secret, code, impl.ErrLong)
		}
	}
	for _, layer := range wrongHops() {
		secret, code := impl.ServerSecret(someKey(), layer)
		wantCode(t, fmt.Sprint("ServerSecret, ", layer), secret, code, impl.ErrRange)
	}
}

// otherKey is the key of the box of a user's access.
func otherKey(t *testing.T, r impl.RoundSpec, user, which int) string {
	t.Helper()
	other := r.Partner[user]
	shared := otherPair(r.Seed, byte(user), byte(other))
	if which == 1 {
		shared = libraryHash([]byte("second" + shared))
	}
	info := "key\x00"
	if user > other {
		info = "key\x01"
	}
	return otherDraw(t, shared, r.Round, info, 32)
}

// otherAccess has the drop and the message that a user leaves there.
func otherAccess(t *testing.T, r impl.RoundSpec, user, which int) impl.Message {
	t.Helper()
	m := impl.Message{Round: r.Round, Drop: otherPlan(t, r.Seed, r.Round, r.Partner)[2*user+which]}
	if which == 0 {
		m.Body = r.Bodies[user]
	}
	return m
}

func otherUserOnion(t *testing.T, r impl.RoundSpec, user, which int) string {
	t.Helper()
	m := otherAccess(t, r, user, which)
	box := otherBox(otherKey(t, r, user, which), otherNonce(r.Round), []byte(m.Drop), otherMessage(m))
	keys := keysFor(t, otherServers(r.Seed, r.Layers))
	return otherOnion(t, otherRoundSeed(r, "onion", user, which), r.Round, keys, m.Drop+string(box))
}

func wantUserOnion(t *testing.T, r impl.RoundSpec, user, which int) string {
	t.Helper()
	b, code := impl.UserOnion(r, user, which)
	wantText(t, fmt.Sprintf("UserOnion, %s, user %d, access %d", roundTold(r), user, which), string(b), code, otherUserOnion(t, r, user, which))
	return string(b)
}

func wantNoUserOnion(t *testing.T, r impl.RoundSpec, user, which, want int) {
	t.Helper()
	b, code := impl.UserOnion(r, user, which)
	wantCode(t, fmt.Sprintf("UserOnion, %s, user %d, access %d", roundTold(r), user, which), string(b), code, want)
}

// eachAccess goes through both accesses of all users of a round.
func eachAccess(r impl.RoundSpec, do func(user, which int)) {
	for user := range r.Partner {
		for which := range 2 {
			do(user, which)
		}
	}
}

func TestP15UserOnions(t *testing.T) {
	t.Parallel()
	eachMatching(func(partner []int) {
		for layers := 1; layers <= 2; layers++ {
			r := roundOf(layers, 0, partner...)
			eachAccess(r, func(user, which int) { wantUserOnion(t, r, user, which) })
		}
	})
	for _, seed := range someSeeds() {
		for i, round := range pairRounds() {
			r := roundOf(1+i%2, 1, 2, 1, 0)
			r.Seed, r.Round = seed, round
			eachAccess(r, func(user, which int) { wantUserOnion(t, r, user, which) })
		}
	}
}

// TestP15UserOnionsPeeledByTheServers: by the program's own functions the drop of PlanDrops is found in it, and a box that
// opens by the key of the user's side and by no other user's, side's or access's one.
func TestP15UserOnionsPeeledByTheServers(t *testing.T) {
	t.Parallel()
	for _, partner := range [][]int{{0}, {1, 0}, {2, 1, 0}, {3, 2, 1, 0}, {0, 3, 2, 1}} {
		for layers := 1; layers <= 2; layers++ {
			r := roundOf(layers, 0, partner...)
			secrets, _ := ownKeys(t, r)
			drops, _ := impl.PlanDrops(r.Seed, r.Round, partner)
			eachAccess(r, func(user, which int) {
				inner, peeled, code := impl.PeelAll(secrets, r.Round, []byte(wantUserOnion(t, r, user, which)))
				if code != impl.OK || peeled != layers || len(inner) != 88 || inner[:8] != drops[2*user+which] {
					t.Fatalf("user %d, access %d of %v: %d layers, %x, code %d", user, which, partner, peeled, inner, code)
				}
				wantOpenedByItsKeyAlone(t, r, user, which, inner)
			})
		}
	}
}

// wantOpenedByItsKeyAlone tries the keys of all pairs that there may be, of both sides and both accesses.
func wantOpenedByItsKeyAlone(t *testing.T, r impl.RoundSpec, user, which int, inner string) {
	t.Helper()
	opened := 0
	for higher := range len(r.Partner) {
		for lower := range higher + 1 {
			shared := hashOf("pair", r.Seed, string([]byte{byte(lower), byte(higher)}))
			for access, secret := range []string{shared, hashOf("second", shared)} {
				for side, sender := range []int{lower, higher} {
					key, _ := impl.PairKey(secret, r.Round, side)
					text, code := impl.OpenBox(key, otherNonce(r.Round), []byte(inner[:8]), []byte(inner[8:]))
					own := access == which && sender == user && r.Partner[user] == lower+higher-user && (side == 0 || lower != higher)
					if (code == impl.OK) != own {
						t.Errorf("user %d, access %d of %v: the key of %d and %d, side %d, access %d: code %d", user, which, r.Partner, lower, higher, side, access, code)
					}
					if code == impl.OK {
						opened++
						wantMessageOf(t, r, user, which, inner[:8], text)
					}
				}
			}
		}
	}
	if opened != 1 {
		t.Errorf("user %d, access %d of %v: opened %d times", user, which, r.Partner, opened)
	}
}

func wantMessageOf(t *testing.T, r impl.RoundSpec, user, which int, drop string, text []byte) {
	t.Helper()
	want := impl.Message{Round: r.Round, Drop: drop, Body: []string{r.Bodies[user], ""}[which]}
	if m, code := impl.ReadMessage(text); code != impl.OK || m != want {
		t.Errorf("user %d, access %d of %v: %+v, code %d; want %+v", user, which, r.Partner, m, code, want)
	}
}

// TestP15OneThatIsIdleHasOneDropAndTwoKeys: its two onions differ within, though they go to one drop and say nothing.
func TestP15OneThatIsIdleHasOneDropAndTwoKeys(t *testing.T) {
	t.Parallel()
	r := roundOf(2, 0, 0, 2, 1)
	r.Bodies[0] = ""
	var insides []string
	for which := range 2 {
		inner, _, code := impl.PeelAll(otherServers(r.Seed, 2), r.Round, []byte(wantUserOnion(t, r, 0, which)))
		if code != impl.OK {
			t.Fatal("PeelAll", code)
		}
		insides = append(insides, inner)
	}
	if insides[0][:8] != insides[1][:8] || insides[0][8:] == insides[1][8:] {
		t.Errorf("one that is idle: %x", insides)
	}
}

// TestP15OnionsOfOneLength: whatever is said, and by whom; that of noise too, as each server sees it.
func TestP15OnionsOfOneLength(t *testing.T) {
	t.Parallel()
	for layers := 1; layers <= 2; layers++ {
		for _, body := range saidBodies() {
			r := roundOf(layers, 1, 1, 0, 2)
			r.Bodies = []string{body, "", body}
			eachAccess(r, func(user, which int) {
				if b, code := impl.UserOnion(r, user, which); code != impl.OK || len(b) != 88+48*layers {
					t.Errorf("UserOnion, %s, user %d, access %d: %d bytes, code %d", roundTold(r), user, which, len(b), code)
				}
			})
		}
		r := withPlan(t, roundOf(layers, 1, 1, 0), impl.NoisePlan{Singles: 1, Pairs: 1})
		_, mixes := ownBatches(t, r)
		for layer, x := range mixes {
			for _, item := range x.mix.Items {
				if len(item) != 88+48*(layers-1-layer) {
					t.Errorf("%d layers: %d bytes behind layer %d", layers, len(item), layer)
				}
			}
		}
	}
}

// TestP15OnionsHangOnWhatIsToldOfThem: not on noise and cuts, nor on what others say.
func TestP15OnionsHangOnWhatIsToldOfThem(t *testing.T) {
	t.Parallel()
	r := roundOf(2, 0, 1, 0, 2)
	want := wantUserOnion(t, r, 0, 0)
	other := r
	other.Bodies = []string{r.Bodies[0], "another one", ""}
	other.Mean, other.A, other.B, other.Cut, other.CutAt = 1, 15, 16, 1, 16
	if wantUserOnion(t, other, 0, 0) != want {
		t.Error("an onion hangs on what others say, on noise or on what is cut")
	}
	for name, change := range map[string]func(r *impl.RoundSpec){
		"body":    func(r *impl.RoundSpec) { r.Bodies = []string{"to yoU", "", ""} },
		"seed":    func(r *impl.RoundSpec) { r.Seed = flipped(r.Seed, 77) },
		"round":   func(r *impl.RoundSpec) { r.Round++ },
		"layers":  func(r *impl.RoundSpec) { r.Layers = 1 },
		"partner": func(r *impl.RoundSpec) { r.Partner = []int{2, 1, 0} },
	} {
		with := r
		change(&with)
		if wantUserOnion(t, with, 0, 0) == want {
			t.Errorf("another %s has the same onion", name)
		}
	}
}

func TestP15OnionsOfNobody(t *testing.T) {
	t.Parallel()
	eachMatching(func(partner []int) {
		r := roundOf(2, 0, partner...)
		wrong := r
		wrong.Layers = 3
		for _, user := range append(farNumbers(), -1, len(partner), len(partner)+1, 4, 5, 255, 256) {
			if user >= 0 && user < len(partner) {
				continue
			}
			for _, which := range append(farNumbers(), -1, 0, 1, 2) {
				wantNoUserOnion(t, r, user, which, impl.ErrRange)
				wantNoUserOnion(t, wrong, user, which, impl.ErrBad)
			}
		}
		for user := range partner {
			for _, which := range append(farNumbers(), -1, 2, 3, 255, 256, 257) {
				wantNoUserOnion(t, r, user, which, impl.ErrRange)
				wantNoUserOnion(t, wrong, user, which, impl.ErrBad)
			}
		}
	})
}
