/- NoiseOf, both sides. -/
import Derived.Test.YtafjodaeckiedaaGeo
namespace Go.Proofs.Ytafjodaeckiedaa
open Go.RowKit
set_option maxHeartbeats 4000000
set_option maxRecDepth 20000
/-- the mean, one count more and one less, within its ends -/
def clampN (m g h : Int) : Int := max 0 (min (2 * m) (m + g - h))
/-- what noise by two counts ends as: c, the two counts and how many words they took, if there are any -/
def nzEnd (c : Option (List Int × Int)) (m : Int) (e : Ending) : Prop :=
  ∃ x t ok, e = .returned (.tuple #[.int .i64 x, .int .i64 t, .bool ok]) ∧ (ok = false → c = none) ∧ (ok = true → ∃ g h, c = some ([g, h], t) ∧ x = clampN m g h)
theorem noi42 (v : Value) (xs : List Int) (w : World) (hv : intsC w v xs) (hk : wOK xs = true) (m a b : Int) (h0 : 0 ≤ m) (h8 : m ≤ 8) (h1 : 1 ≤ a) (h2 : a < b) (h3 : b ≤ 16) :
    Calls Try.prog 42 #[v, .int .i64 m, .int .i64 a, .int .i64 b] w fun e w' => nzEnd (cF (65536 - 65536 % b) a b 2 xs 0) m e ∧ w' = w := by
  obtain ⟨g, n, ok, eg, hn, g0, g1, hno, hyes⟩ := cF_two (top := 65536 - 65536 % b) (a := a) (b := b) xs
  have K1 := geo45 v xs w hv hk a b h1 h2 h3
  rw [eg] at K1
  have HL := wOK_len hk
  have K1 := hide K1
  cases ok
  · have HE := hide (hno rfl)
    obtain ⟨A, cap, rfl, _⟩ := hv.2
    clear hv hk hno hyes eg hn g0 g1 HL
    go_enter Try.func42, Try.ntmps42
    go_wp2_with fail
    refine (unhide K1).mono ?_
    rintro e w' ⟨rfl, hw'⟩
    have hw2 := hw'.symm
    subst hw2
    clear K1
    go_wp2
    go_ret3
    exact ⟨⟨_, _, _, rfl, fun _ => unhide HE, fun h => by cases h⟩, rfl⟩
  · obtain ⟨h, k, ok', eh, hk2, i0, i1, hno', hyes'⟩ := hyes rfl
    obtain ⟨A, cap, rfl, _⟩ := hv.2
    obtain ⟨A', hs, hi⟩ := cut_ints hv n hn
    have s1 := hs w
    have K2 := geo45 _ (xs.drop n) w hi (wOK_drop hk n) a b h1 h2 h3
    rw [eh] at K2
    have K2 := hide K2
    have g2 : g ≤ 2000 := by omega
    have i2 : h ≤ 2000 := by omega
    have n0 : (0 : Int) ≤ (n : Int) := by omega
    have n1 : (n : Int) ≤ 2000 := by omega
    have k0 : (0 : Int) ≤ (k : Int) := by omega
    have k1 : (k : Int) ≤ 2000 := by rw [List.length_drop] at hk2; omega
    have HO := hide hno'
    have HY := hide hyes'
    have fin : Hid (∀ x : Int, x = clampN m g h → nzEnd (cF (65536 - 65536 % b) a b 2 xs 0) m (Ending.returned (.tuple #[.int .i64 x, .int .i64 ((n : Int) + (k : Int)), .bool ok']))) := hide fun x hx =>
      ⟨x, _, ok', rfl, unhide HO, fun o => ⟨g, h, unhide HY o, hx⟩⟩
    clear hs hi hv hk hno hno' hyes hyes' eg eh hn hk2 g1 i1 HL HO HY
    rcases Int.lt_or_le (m + g - h) 0 with hx | hx
    · have HX : Hid ((0 : Int) = clampN m g h) := hide (by unfold clampN; omega)
      have x1 : m + g - h ≤ 2 * m := by omega
      go_enter Try.func42, Try.ntmps42
      go_wp2_with fail
      refine (unhide K1).mono ?_
      rintro e w' ⟨rfl, hw'⟩
      have hw2 := hw'.symm
      subst hw2
      clear K1
      go_wp2_with fail
      refine (unhide K2).mono ?_
      rintro e w' ⟨rfl, hw'⟩
      have hw2 := hw'.symm
      subst hw2
      clear K2
      clear s1
      go_wp2
      all_goals
        go_ret3
        exact ⟨unhide fin _ (by have := unhide HX; omega), rfl⟩
    · rcases Int.lt_or_le (2 * m) (m + g - h) with hy | hy
      · have HX : Hid (2 * m = clampN m g h) := hide (by unfold clampN; omega)
        have x2 : 0 ≤ 2 * m := by omega
        have x3 : 2 * m ≤ m + g - h := by omega
        go_enter Try.func42, Try.ntmps42
        go_wp2_with fail
        refine (unhide K1).mono ?_
        rintro e w' ⟨rfl, hw'⟩
        have hw2 := hw'.symm
        subst hw2
        clear K1
        go_wp2_with fail
        refine (unhide K2).mono ?_
        rintro e w' ⟨rfl, hw'⟩
        have hw2 := hw'.symm
        subst hw2
        clear K2
        clear s1
        go_wp2
        all_goals
          go_ret3
          exact ⟨unhide fin _ (by have := unhide HX; omega), rfl⟩
      · have HX : Hid (m + g - h = clampN m g h) := hide (by unfold clampN; omega)
        go_enter Try.func42, Try.ntmps42
        go_wp2_with fail
        refine (unhide K1).mono ?_
        rintro e w' ⟨rfl, hw'⟩
        have hw2 := hw'.symm
        subst hw2
        clear K1
        go_wp2_with fail
        refine (unhide K2).mono ?_
        rintro e w' ⟨rfl, hw'⟩
        have hw2 := hw'.symm
        subst hw2
        clear K2
        clear s1
        go_wp2
        all_goals
          go_ret3
          exact ⟨unhide fin _ (by have := unhide HX; omega), rfl⟩
end Go.Proofs.Ytafjodaeckiedaa
