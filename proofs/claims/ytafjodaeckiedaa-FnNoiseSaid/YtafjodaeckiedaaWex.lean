/- NoiseTotal, NoiseWeight, ShiftNoise: both sides, and their laws, walked. -/
import Derived.Test.YtafjodaeckiedaaWet
namespace Go.Proofs.Ytafjodaeckiedaa
open Go.RowKit
set_option maxHeartbeats 4000000
set_option maxRecDepth 20000
abbrev pV (r : Int × Int) : Value := .tuple #[.int .i64 r.1, .int .i64 r.2]
theorem mOK_true {m : Int} (h : mOK m = true) : 0 ≤ m ∧ m ≤ 8 := of_decide_eq_true h
theorem rOK_true {a b : Int} (h : rOK a b = true) : 1 ≤ a ∧ a < b ∧ b ≤ 16 := of_decide_eq_true h
theorem nOK_true {n m : Int} (h : nOK n m = true) : 0 ≤ n ∧ n ≤ 2 * m := of_decide_eq_true h
def tR (m a b : Int) : Int × Int := if rOK a b && mOK m then (tF m a b, 0) else (0, 4)
theorem tot13 (m a b : Int) (w : World) : Calls Try.prog 13 #[.int .i64 m, .int .i64 a, .int .i64 b] w fun e w' => e = .returned (pV (tR m a b)) ∧ w' = w := by
  have K1 := hide (fun W => mean30 m W)
  have K2 := hide (fun W => ratio31 a b W)
  cases hm : mOK m
  · rw [hm] at K1
    have HE : Hid (tR m a b = (0, 4)) := hide (by unfold tR; rw [hm, Bool.and_false]; rfl)
    clear K2 hm
    go_enter Try.func13, Try.ntmps13
    go_wp2_with fail
    refine (unhide K1 _).mono ?_
    rintro e w' ⟨rfl, rfl⟩
    clear K1
    go_wp2
    go_ret2
    exact ⟨by rw [unhide HE]; rfl, rfl⟩
  · rw [hm] at K1
    cases hr : rOK a b
    · rw [hr] at K2
      have HE : Hid (tR m a b = (0, 4)) := hide (by unfold tR; rw [hr]; rfl)
      clear hm hr
      go_enter Try.func13, Try.ntmps13
      go_wp2_with fail
      refine (unhide K1 _).mono ?_
      rintro e w' ⟨rfl, rfl⟩
      clear K1
      go_wp2_with fail
      refine (unhide K2 _).mono ?_
      rintro e w' ⟨rfl, rfl⟩
      clear K2
      go_wp2
      go_ret2
      exact ⟨by rw [unhide HE]; rfl, rfl⟩
    · rw [hr] at K2
      have HE : Hid (tR m a b = (tF m a b, 0)) := hide (by unfold tR; rw [hr, hm]; rfl)
      obtain ⟨h1, h2, h3⟩ := rOK_true hr
      obtain ⟨h4, h5⟩ := mOK_true hm
      have K3 := hide (fun W => total32 m a b h1 h2 h3 h4 h5 W)
      generalize tF m a b = r at *
      clear hm hr h1 h2 h3 h4 h5
      go_enter Try.func13, Try.ntmps13
      go_wp2_with fail
      refine (unhide K1 _).mono ?_
      rintro e w' ⟨rfl, rfl⟩
      clear K1
      go_wp2_with fail
      refine (unhide K2 _).mono ?_
      rintro e w' ⟨rfl, rfl⟩
      clear K2
      go_wp2_with fail
      refine (unhide K3 _).mono ?_
      rintro e w' ⟨rfl, rfl⟩
      clear K3
      go_wp2
      go_ret2
      exact ⟨by rw [unhide HE]; rfl, rfl⟩
theorem tot14 (m a b : Int) (w : World) : Calls Try.prog 14 #[.int .i64 m, .int .i64 a, .int .i64 b] w fun e w' => e = .returned (pV (tR m a b)) ∧ w' = w := by
  have K1 := hide (fun W => range33 m a b W)
  cases hm : (rOK a b && mOK m)
  · rw [hm] at K1
    have HE : Hid (tR m a b = (0, 4)) := hide (by unfold tR; rw [hm]; rfl)
    clear hm
    go_enter Try.func14, Try.ntmps14
    go_wp2_with fail
    refine (unhide K1 _).mono ?_
    rintro e w' ⟨rfl, rfl⟩
    clear K1
    go_wp2
    go_ret2
    exact ⟨by rw [unhide HE]; rfl, rfl⟩
  · rw [hm] at K1
    have HE : Hid (tR m a b = (tF m a b, 0)) := hide (by unfold tR; rw [hm]; rfl)
    rw [Bool.and_eq_true] at hm
    obtain ⟨h1, h2, h3⟩ := rOK_true hm.1
    obtain ⟨h4, h5⟩ := mOK_true hm.2
    have ht := tF_bd m a b h1 h2 h3 h4 h5
    obtain ⟨k, rfl⟩ : ∃ k : Nat, m = k := ⟨m.toNat, by omega⟩
    have K2 := hide (fun W => power34 b k (by omega) h3 (by omega) W)
    obtain ⟨x, hx⟩ : ∃ x, x = b ^ k := ⟨_, rfl⟩
    have e0 : tF k a b = (a + b) * x := by unfold tF; rw [hx, Int.toNat_natCast]
    rw [e0] at ht HE
    rw [← hx] at K2
    have hw := wrap_ok ((a + b) * x) (by omega) (by omega)
    clear hx ht e0 hm
    go_enter Try.func14, Try.ntmps14
    go_wp2_with fail
    refine (unhide K1 _).mono ?_
    rintro e w' ⟨rfl, rfl⟩
    clear K1
    go_wp2_with fail
    refine (unhide K2 _).mono ?_
    rintro e w' ⟨rfl, rfl⟩
    clear K2
    go_wp2
    go_ret2
    exact ⟨by rw [unhide HE]; rfl, rfl⟩
def wR (n m a b : Int) : Int × Int := if rOK a b && mOK m && nOK n m then (wF n m a b, 0) else (0, 4)
theorem wei15 (n m a b : Int) (w : World) : Calls Try.prog 15 #[.int .i64 n, .int .i64 m, .int .i64 a, .int .i64 b] w fun e w' => e = .returned (pV (wR n m a b)) ∧ w' = w := by
  have K1 := hide (fun W => mean30 m W)
  have K2 := hide (fun W => ratio31 a b W)
  cases hm : mOK m
  · rw [hm] at K1
    have HE : Hid (wR n m a b = (0, 4)) := hide (by unfold wR; rw [hm, Bool.and_false]; rfl)
    clear K2 hm
    go_enter Try.func15, Try.ntmps15
    go_wp2_with fail
    refine (unhide K1 _).mono ?_
    rintro e w' ⟨rfl, rfl⟩
    clear K1
    go_wp2
    go_ret2
    exact ⟨by rw [unhide HE]; rfl, rfl⟩
  rw [hm] at K1
  cases hr : rOK a b
  · rw [hr] at K2
    have HE : Hid (wR n m a b = (0, 4)) := hide (by unfold wR; rw [hr]; rfl)
    clear hm hr
    go_enter Try.func15, Try.ntmps15
    go_wp2_with fail
    refine (unhide K1 _).mono ?_
    rintro e w' ⟨rfl, rfl⟩
    clear K1
    go_wp2_with fail
    refine (unhide K2 _).mono ?_
    rintro e w' ⟨rfl, rfl⟩
    clear K2
    go_wp2
    go_ret2
    exact ⟨by rw [unhide HE]; rfl, rfl⟩
  rw [hr] at K2
  obtain ⟨h1, h2, h3⟩ := rOK_true hr
  obtain ⟨h4, h5⟩ := mOK_true hm
  have K3 := hide (fun W => noise35 n m h4 h5 W)
  cases hn : nOK n m
  · rw [hn] at K3
    have HE : Hid (wR n m a b = (0, 4)) := hide (by unfold wR; rw [hn, Bool.and_false]; rfl)
    clear hm hr hn h1 h2 h3 h4 h5
    go_enter Try.func15, Try.ntmps15
    go_wp2_with fail
    refine (unhide K1 _).mono ?_
    rintro e w' ⟨rfl, rfl⟩
    clear K1
    go_wp2_with fail
    refine (unhide K2 _).mono ?_
    rintro e w' ⟨rfl, rfl⟩
    clear K2
    go_wp2_with fail
    refine (unhide K3 _).mono ?_
    rintro e w' ⟨rfl, rfl⟩
    clear K3
    go_wp2
    go_ret2
    exact ⟨by rw [unhide HE]; rfl, rfl⟩
  · rw [hn] at K3
    have HE : Hid (wR n m a b = (wF n m a b, 0)) := hide (by unfold wR; rw [hr, hm, hn]; rfl)
    obtain ⟨h6, h7⟩ := nOK_true hn
    have K4 := hide (fun W => weight36 n m a b h1 h2 h3 h4 h5 h6 h7 W)
    generalize wF n m a b = r at *
    clear hm hr hn h1 h2 h3 h4 h5 h6 h7
    go_enter Try.func15, Try.ntmps15
    go_wp2_with fail
    refine (unhide K1 _).mono ?_
    rintro e w' ⟨rfl, rfl⟩
    clear K1
    go_wp2_with fail
    refine (unhide K2 _).mono ?_
    rintro e w' ⟨rfl, rfl⟩
    clear K2
    go_wp2_with fail
    refine (unhide K3 _).mono ?_
    rintro e w' ⟨rfl, rfl⟩
    clear K3
    go_wp2_with fail
    refine (unhide K4 _).mono ?_
    rintro e w' ⟨rfl, rfl⟩
    clear K4
    go_wp2
    go_ret2
    exact ⟨by rw [unhide HE]; rfl, rfl⟩
theorem wei28 (n m a b : Int) (w : World) : Calls Try.prog 28 #[.int .i64 n, .int .i64 m, .int .i64 a, .int .i64 b] w fun e w' => e = .returned (pV (wR n m a b)) ∧ w' = w := by
  have K1 := hide (fun W => range33 m a b W)
  cases hm : (rOK a b && mOK m)
  · rw [hm] at K1
    have HE : Hid (wR n m a b = (0, 4)) := hide (by unfold wR; rw [hm]; rfl)
    clear hm
    go_enter Try.func28, Try.ntmps28
    go_wp2_with fail
    refine (unhide K1 _).mono ?_
    rintro e w' ⟨rfl, rfl⟩
    clear K1
    go_wp2
    go_ret2
    exact ⟨by rw [unhide HE]; rfl, rfl⟩
  rw [hm] at K1
  have HR := hide hm
  rw [Bool.and_eq_true] at hm
  obtain ⟨h1, h2, h3⟩ := rOK_true hm.1
  obtain ⟨h4, h5⟩ := mOK_true hm.2
  clear hm
  have K3 := hide (fun W => in19 n 0 (2 * m) W)
  rw [show (decide (0 ≤ n) && decide (n ≤ 2 * m)) = nOK n m by unfold nOK; rw [Bool.eq_iff_iff]; simp] at K3
  cases hn : nOK n m
  · rw [hn] at K3
    have HE : Hid (wR n m a b = (0, 4)) := hide (by unfold wR; rw [hn, Bool.and_false]; rfl)
    clear hn h1 h2 h3
    go_enter Try.func28, Try.ntmps28
    go_wp2_with fail
    refine (unhide K1 _).mono ?_
    rintro e w' ⟨rfl, rfl⟩
    clear K1
    go_wp2_with fail
    refine (unhide K3 _).mono ?_
    rintro e w' ⟨rfl, rfl⟩
    clear K3
    go_wp2
    go_ret2
    exact ⟨by rw [unhide HE]; rfl, rfl⟩
  · rw [hn] at K3
    have HE : Hid (wR n m a b = (wF n m a b, 0)) := hide (by unfold wR; rw [unhide HR, hn]; rfl)
    obtain ⟨h6, h7⟩ := nOK_true hn
    have K4 := hide (fun W => weight48 n m a b h1 h2 h3 h4 h5 h6 h7 W)
    generalize wF n m a b = r at *
    clear hn h1 h2 h3
    go_enter Try.func28, Try.ntmps28
    go_wp2_with fail
    refine (unhide K1 _).mono ?_
    rintro e w' ⟨rfl, rfl⟩
    clear K1
    go_wp2_with fail
    refine (unhide K3 _).mono ?_
    rintro e w' ⟨rfl, rfl⟩
    clear K3
    go_wp2_with fail
    refine (unhide K4 _).mono ?_
    rintro e w' ⟨rfl, rfl⟩
    clear K4
    go_wp2
    go_ret2
    exact ⟨by rw [unhide HE]; rfl, rfl⟩
theorem law_tot (w : World) (m a b : Int) : Calls Try.prog 9 #[.int .i64 m, .int .i64 a, .int .i64 b] w fun e w' => e = .returned (.bool true) ∧ Below w.heap.size w w' := by
  have K1 := hide (fun W => tot14 m a b W)
  have K2 := hide (fun W => tot13 m a b W)
  generalize tR m a b = r at *
  obtain ⟨x, y⟩ := r
  go_enter Try.func9, Try.ntmps9
  go_wp2_with fail
  refine (unhide K1 _).mono ?_
  rintro e w' ⟨rfl, rfl⟩
  clear K1
  go_wp2_with fail
  refine (unhide K2 _).mono ?_
  rintro e w' ⟨rfl, rfl⟩
  clear K2
  go_wp2
  go_ret
  exact ⟨rfl, Below.refl _ _⟩
theorem law_wei (w : World) (n m a b : Int) : Calls Try.prog 8 #[.int .i64 n, .int .i64 m, .int .i64 a, .int .i64 b] w fun e w' => e = .returned (.bool true) ∧ Below w.heap.size w w' := by
  have K1 := hide (fun W => wei28 n m a b W)
  have K2 := hide (fun W => wei15 n m a b W)
  generalize wR n m a b = r at *
  obtain ⟨x, y⟩ := r
  go_enter Try.func8, Try.ntmps8
  go_wp2_with fail
  refine (unhide K1 _).mono ?_
  rintro e w' ⟨rfl, rfl⟩
  clear K1
  go_wp2_with fail
  refine (unhide K2 _).mono ?_
  rintro e w' ⟨rfl, rfl⟩
  clear K2
  go_wp2
  go_ret
  exact ⟨rfl, Below.refl _ _⟩
def sR (n k m : Int) : Int × Int := if 1 ≤ m ∧ m ≤ 8 ∧ 0 ≤ n ∧ n ≤ 2 * m ∧ -2 ≤ k ∧ k ≤ 2 then (if 0 ≤ n + k ∧ n + k ≤ 2 * m then (n + k, 0) else (0, 5)) else (0, 4)
theorem shi21 (n k m : Int) (w : World) : Calls Try.prog 21 #[.int .i64 n, .int .i64 k, .int .i64 m] w fun e w' => e = .returned (pV (sR n k m)) ∧ w' = w := by
  have K1 := hide (fun W => mean30 m W)
  cases hm : mOK m
  · rw [hm] at K1
    have HE : Hid (sR n k m = (0, 4)) := hide (by
      unfold sR; rw [if_neg]; intro h; rw [mOK, decide_eq_false_iff_not] at hm; omega)
    clear hm
    go_enter Try.func21, Try.ntmps21
    go_wp2_with fail
    refine (unhide K1 _).mono ?_
    rintro e w' ⟨rfl, rfl⟩
    clear K1
    go_wp2
    go_ret2
    exact ⟨by rw [unhide HE]; rfl, rfl⟩
  rw [hm] at K1
  obtain ⟨h4, h5⟩ := mOK_true hm
  clear hm
  by_cases hz : m = 0
  · have HE : Hid (sR n k m = (0, 4)) := hide (by unfold sR; rw [if_neg]; omega)
    subst hz
    go_enter Try.func21, Try.ntmps21
    go_wp2_with fail
    refine (unhide K1 _).mono ?_
    rintro e w' ⟨rfl, rfl⟩
    clear K1
    go_wp2
    go_ret2
    exact ⟨by rw [unhide HE]; rfl, rfl⟩
  have hz' : 1 ≤ m := by omega
  have z1 : (m == 0) = false := by simp; omega
  have K3 := hide (fun W => noise35 n m h4 h5 W)
  cases hn : nOK n m
  · rw [hn] at K3
    have HE : Hid (sR n k m = (0, 4)) := hide (by
      unfold sR; rw [if_neg]; intro h; rw [nOK, decide_eq_false_iff_not] at hn; omega)
    clear hn
    go_enter Try.func21, Try.ntmps21
    go_wp2_with fail
    refine (unhide K1 _).mono ?_
    rintro e w' ⟨rfl, rfl⟩
    clear K1
    go_wp2_with fail
    refine (unhide K3 _).mono ?_
    rintro e w' ⟨rfl, rfl⟩
    clear K3
    go_wp2
    go_ret2
    exact ⟨by rw [unhide HE]; rfl, rfl⟩
  rw [hn] at K3
  obtain ⟨h6, h7⟩ := nOK_true hn
  clear hn
  by_cases hk : -2 ≤ k ∧ k ≤ 2
  · obtain ⟨h8, h9⟩ := hk
    have z2 : decide (k < -2) = false := decide_eq_false (by omega)
    have z3 : decide (2 < k) = false := decide_eq_false (by omega)
    have K5 := hide (fun W => noise35 (n + k) m h4 h5 W)
    cases hq : nOK (n + k) m
    · rw [hq] at K5
      have HE : Hid (sR n k m = (0, 5)) := hide (by
        unfold sR; rw [if_pos (by omega), if_neg]; intro h; rw [nOK, decide_eq_false_iff_not] at hq; omega)
      clear hq
      go_enter Try.func21, Try.ntmps21
      go_wp2_with fail
      refine (unhide K1 _).mono ?_
      rintro e w' ⟨rfl, rfl⟩
      clear K1
      go_wp2_with fail
      refine (unhide K3 _).mono ?_
      rintro e w' ⟨rfl, rfl⟩
      clear K3
      go_wp2_with fail
      refine (unhide K5 _).mono ?_
      rintro e w' ⟨rfl, rfl⟩
      clear K5
      go_wp2
      go_ret2
      exact ⟨by rw [unhide HE]; rfl, rfl⟩
    · rw [hq] at K5
      have HE : Hid (sR n k m = (n + k, 0)) := hide (by
        unfold sR; rw [if_pos (by omega), if_pos (nOK_true hq)])
      clear hq
      go_enter Try.func21, Try.ntmps21
      go_wp2_with fail
      refine (unhide K1 _).mono ?_
      rintro e w' ⟨rfl, rfl⟩
      clear K1
      go_wp2_with fail
      refine (unhide K3 _).mono ?_
      rintro e w' ⟨rfl, rfl⟩
      clear K3
      go_wp2_with fail
      refine (unhide K5 _).mono ?_
      rintro e w' ⟨rfl, rfl⟩
      clear K5
      go_wp2
      go_ret2
      exact ⟨by rw [unhide HE]; rfl, rfl⟩
  · have HE : Hid (sR n k m = (0, 4)) := hide (by unfold sR; rw [if_neg]; omega)
    have hk' : k < -2 ∨ 2 < k := by omega
    clear hk
    rcases hk' with h8 | h8
    all_goals
      go_enter Try.func21, Try.ntmps21
      go_wp2_with fail
      refine (unhide K1 _).mono ?_
      rintro e w' ⟨rfl, rfl⟩
      clear K1
      go_wp2_with fail
      refine (unhide K3 _).mono ?_
      rintro e w' ⟨rfl, rfl⟩
      clear K3
      go_wp2
      go_ret2
      exact ⟨by rw [unhide HE]; rfl, rfl⟩
theorem shi22 (n k m : Int) (w : World) : Calls Try.prog 22 #[.int .i64 n, .int .i64 k, .int .i64 m] w fun e w' => e = .returned (pV (sR n k m)) ∧ w' = w := by
  have K1 := hide (fun W => in19 m 1 8 W)
  cases hm : (decide (1 ≤ m) && decide (m ≤ 8))
  · rw [hm] at K1
    have HE : Hid (sR n k m = (0, 4)) := hide (by
      unfold sR; rw [if_neg]; intro h; rw [decide_eq_true h.1, decide_eq_true h.2.1] at hm; cases hm)
    clear hm
    go_enter Try.func22, Try.ntmps22
    go_wp2_with fail
    refine (unhide K1 _).mono ?_
    rintro e w' ⟨rfl, rfl⟩
    clear K1
    go_wp2
    go_ret2
    exact ⟨by rw [unhide HE]; rfl, rfl⟩
  rw [hm] at K1
  rw [Bool.and_eq_true, decide_eq_true_eq, decide_eq_true_eq] at hm
  obtain ⟨h4, h5⟩ := hm
  have K3 := hide (fun W => in19 n 0 (2 * m) W)
  cases hn : (decide (0 ≤ n) && decide (n ≤ 2 * m))
  · rw [hn] at K3
    have HE : Hid (sR n k m = (0, 4)) := hide (by
      unfold sR; rw [if_neg]; intro h; rw [decide_eq_true h.2.2.1, decide_eq_true h.2.2.2.1] at hn; cases hn)
    clear hn
    go_enter Try.func22, Try.ntmps22
    go_wp2_with fail
    refine (unhide K1 _).mono ?_
    rintro e w' ⟨rfl, rfl⟩
    clear K1
    go_wp2_with fail
    refine (unhide K3 _).mono ?_
    rintro e w' ⟨rfl, rfl⟩
    clear K3
    go_wp2
    go_ret2
    exact ⟨by rw [unhide HE]; rfl, rfl⟩
  rw [hn] at K3
  rw [Bool.and_eq_true, decide_eq_true_eq, decide_eq_true_eq] at hn
  obtain ⟨h6, h7⟩ := hn
  have K4 := hide (fun W => in19 k (-2) 2 W)
  cases hk : (decide (-2 ≤ k) && decide (k ≤ 2))
  · rw [hk] at K4
    have HE : Hid (sR n k m = (0, 4)) := hide (by
      unfold sR; rw [if_neg]; intro h; rw [decide_eq_true h.2.2.2.2.1, decide_eq_true h.2.2.2.2.2] at hk; cases hk)
    clear hk
    go_enter Try.func22, Try.ntmps22
    go_wp2_with fail
    refine (unhide K1 _).mono ?_
    rintro e w' ⟨rfl, rfl⟩
    clear K1
    go_wp2_with fail
    refine (unhide K3 _).mono ?_
    rintro e w' ⟨rfl, rfl⟩
    clear K3
    go_wp2_with fail
    refine (unhide K4 _).mono ?_
    rintro e w' ⟨rfl, rfl⟩
    clear K4
    go_wp2
    go_ret2
    exact ⟨by rw [unhide HE]; rfl, rfl⟩
  rw [hk] at K4
  rw [Bool.and_eq_true, decide_eq_true_eq, decide_eq_true_eq] at hk
  obtain ⟨h8, h9⟩ := hk
  have K5 := hide (fun W => in19 (n + k) 0 (2 * m) W)
  cases hq : (decide (0 ≤ n + k) && decide (n + k ≤ 2 * m))
  · rw [hq] at K5
    have HE : Hid (sR n k m = (0, 5)) := hide (by
      unfold sR; rw [if_pos (by omega), if_neg]; intro h; rw [decide_eq_true h.1, decide_eq_true h.2] at hq; cases hq)
    clear hq
    go_enter Try.func22, Try.ntmps22
    go_wp2_with fail
    refine (unhide K1 _).mono ?_
    rintro e w' ⟨rfl, rfl⟩
    clear K1
    go_wp2_with fail
    refine (unhide K3 _).mono ?_
    rintro e w' ⟨rfl, rfl⟩
    clear K3
    go_wp2_with fail
    refine (unhide K4 _).mono ?_
    rintro e w' ⟨rfl, rfl⟩
    clear K4
    go_wp2_with fail
    refine (unhide K5 _).mono ?_
    rintro e w' ⟨rfl, rfl⟩
    clear K5
    go_wp2
    go_ret2
    exact ⟨by rw [unhide HE]; rfl, rfl⟩
  · rw [hq] at K5
    rw [Bool.and_eq_true, decide_eq_true_eq, decide_eq_true_eq] at hq
    have HE : Hid (sR n k m = (n + k, 0)) := hide (by
      unfold sR; rw [if_pos (by omega), if_pos hq])
    clear hq
    go_enter Try.func22, Try.ntmps22
    go_wp2_with fail
    refine (unhide K1 _).mono ?_
    rintro e w' ⟨rfl, rfl⟩
    clear K1
    go_wp2_with fail
    refine (unhide K3 _).mono ?_
    rintro e w' ⟨rfl, rfl⟩
    clear K3
    go_wp2_with fail
    refine (unhide K4 _).mono ?_
    rintro e w' ⟨rfl, rfl⟩
    clear K4
    go_wp2_with fail
    refine (unhide K5 _).mono ?_
    rintro e w' ⟨rfl, rfl⟩
    clear K5
    go_wp2
    go_ret2
    exact ⟨by rw [unhide HE]; rfl, rfl⟩
theorem law_shi (w : World) (n k m : Int) : Calls Try.prog 11 #[.int .i64 n, .int .i64 k, .int .i64 m] w fun e w' => e = .returned (.bool true) ∧ Below w.heap.size w w' := by
  have K1 := hide (fun W => shi22 n k m W)
  have K2 := hide (fun W => shi21 n k m W)
  generalize sR n k m = r at *
  obtain ⟨x, y⟩ := r
  go_enter Try.func11, Try.ntmps11
  go_wp2_with fail
  refine (unhide K1 _).mono ?_
  rintro e w' ⟨rfl, rfl⟩
  clear K1
  go_wp2_with fail
  refine (unhide K2 _).mono ?_
  rintro e w' ⟨rfl, rfl⟩
  clear K2
  go_wp2
  go_ret
  exact ⟨rfl, Below.refl _ _⟩
end Go.Proofs.Ytafjodaeckiedaa
