/- MatchingOK on both sides, and the law. -/
import Derived.Test.YtkefbmcipdiieaaInts
import Derived.Deep.RegionHeldLaw
namespace Go.Proofs.Ytkefbmcipdiieaa
open Go.RowKit
set_option maxHeartbeats 4000000
set_option maxRecDepth 20000
/-- who talks to i's partner -/
def prB (xs : List Int) (i : Nat) : Bool := decide (0 ≤ xs.getD i 0) && decide (xs.getD i 0 < (xs.length : Int)) && decide (xs.getD (xs.getD i 0).toNat 0 = (i : Int))
def mtB (xs : List Int) : Bool := decide (xs.length ≤ 8) && (List.range xs.length).all (prB xs)
theorem mt_bad {xs : List Int} {j : Nat} (hj : j < xs.length) (hb : prB xs j = false) : mtB xs = false := by
  unfold mtB
  rw [Bool.and_eq_false_iff]; right
  rw [List.all_eq_false]
  exact ⟨j, List.mem_range.2 hj, by simp [hb]⟩
theorem mt_good {xs : List Int} (h8 : xs.length ≤ 8) (h : ∀ i, i < xs.length → prB xs i = true) : mtB xs = true := by
  unfold mtB
  rw [Bool.and_eq_true]
  exact ⟨decide_eq_true h8, List.all_eq_true.2 fun i hi => h i (List.mem_range.1 hi)⟩
theorem pr_lo {xs : List Int} {j : Nat} (h : xs.getD j 0 < 0) : prB xs j = false := by
  unfold prB; rw [decide_eq_false (by omega : ¬ 0 ≤ xs.getD j 0)]; rfl
theorem pr_hi {xs : List Int} {j : Nat} (h : (xs.length : Int) ≤ xs.getD j 0) : prB xs j = false := by
  unfold prB; rw [decide_eq_false (by omega : ¬ xs.getD j 0 < (xs.length : Int))]; simp
theorem pr_in {xs : List Int} {j : Nat} (h0 : 0 ≤ xs.getD j 0) (h1 : xs.getD j 0 < (xs.length : Int)) : prB xs j = decide (xs.getD (xs.getD j 0).toNat 0 = (j : Int)) := by
  unfold prB; rw [decide_eq_true h0, decide_eq_true h1]; rfl
theorem ret_b {a b : Bool} (h : a = b) : Ending.returned (.bool a) = .returned (.bool b) := by rw [h]
theorem in48 (n lo hi : Int) (w : World) : Calls Try.prog 11 #[.int .i64 n, .int .i64 lo, .int .i64 hi] w fun e w' => e = .returned (.bool (decide (lo ≤ n) && decide (n ≤ hi))) ∧ w' = w := by
  go_enter Try.func11, Try.ntmps11
  go_wp2
  all_goals
    go_ret
    exact ⟨ret_b (by rw [Bool.eq_iff_iff]; simp; try omega), rfl⟩
theorem match29 (v : Value) (xs : List Int) (w : World) (hv : intsV w v xs) (hl : xs.length ≤ 1048576) : Calls Try.prog 23 #[v] w fun e w' => e = .returned (.bool (mtB xs)) ∧ w' = w := by
  obtain ⟨A, cap, rfl, hcell⟩ := hv
  have HC := hide hcell
  have n0 : (0 : Int) ≤ (xs.length : Int) := by omega
  have n1 : (xs.length : Int) ≤ 1048576 := by omega
  clear hcell
  by_cases h8 : 8 < xs.length
  · have HF : Hid (mtB xs = false) := hide (by unfold mtB; rw [decide_eq_false (by omega)]; rfl)
    have q : (8 : Int) < (xs.length : Int) := by omega
    clear h8 hl HC
    go_enter Try.func23, Try.ntmps23
    go_wp2
    go_ret
    exact ⟨ret_b (unhide HF).symm, rfl⟩
  have H8 := hide (show xs.length ≤ 8 by omega)
  have q : (xs.length : Int) ≤ 8 := by omega
  clear h8 hl n1
  go_enter Try.func23, Try.ntmps23
  go_wp2
  go_loopw [10] (fun i wr => ∃ j : Nat, j ≤ xs.length ∧ i = .int .i64 j ∧ (∀ k, k < j → prB xs k = true) ∧ wr = w) (fun i _ => xs.length - (intOf i).toNat)
  case atStart => exact ⟨0, by omega, rfl, fun k hk => absurd hk (Nat.not_lt_zero k), rfl⟩
  case round =>
    obtain ⟨j, hj, rfl, hg, hwr⟩ := hrel
    subst hwr
    by_cases hlt : j < xs.length
    · obtain ⟨b, off, hA, hbb, hcell⟩ := unhide HC (by omega)
      subst hA
      have q1 : (j : Int) < (xs.length : Int) := by omega
      have q0 : (0 : Int) ≤ (j : Int) := by omega
      have p0 := hcell j hlt
      have HJ := hide hlt
      have HG := hide hg
      have HCC := hide hcell
      have F0 := hide (fun (h : xs.getD j 0 < 0) => mt_bad hlt (pr_lo h))
      have F1 := hide (fun (h : (xs.length : Int) ≤ xs.getD j 0) => mt_bad hlt (pr_hi h))
      have F2 := hide (fun (h0 : 0 ≤ xs.getD j 0) (h1 : xs.getD j 0 < (xs.length : Int)) => pr_in h0 h1)
      clear hcell hlt hj hbb hg
      generalize hcx : xs.getD j 0 = c at *
      have HX := hide hcx
      clear hcx
      by_cases hc0 : c < 0
      · have HF := hide (unhide F0 hc0)
        clear F0 F1 F2
        go_wp2
        go_ret
        exact ⟨ret_b (unhide HF).symm, rfl⟩
      by_cases hc1 : (xs.length : Int) ≤ c
      · have HF := hide (unhide F1 hc1)
        have hc2 : 0 ≤ c := by omega
        clear F0 F1 F2 hc0
        go_wp2
        go_ret
        exact ⟨ret_b (unhide HF).symm, rfl⟩
      obtain ⟨m, rfl⟩ : ∃ m : Nat, c = (m : Int) := ⟨c.toNat, by omega⟩
      have m1 : (m : Int) < (xs.length : Int) := by omega
      have m0 : (0 : Int) ≤ (m : Int) := by omega
      have p1 := unhide HCC m (by omega)
      have e2 := unhide F2 m0 m1
      rw [Int.toNat_natCast] at e2
      clear F0 F1 F2 hc0 hc1 HCC
      generalize xs.getD m 0 = x at *
      by_cases hx : x = (j : Int)
      · have HE : Hid (prB xs j = true) := hide (by rw [e2]; exact decide_eq_true hx)
        clear e2
        subst hx
        go_wp2
        go_roundw
        case rel => exact ⟨j + 1, unhide HJ, by go_num, fun k hk => by rcases Nat.lt_succ_iff_lt_or_eq.1 hk with h | h; exact unhide HG k h; rw [h]; exact unhide HE, by first | rfl | trivial⟩
        case measure => have := unhide HJ; simp [intOf]; omega
      · have HF : Hid (mtB xs = false) := hide (mt_bad (unhide HJ) (by rw [e2]; exact decide_eq_false hx))
        have hx2 : decide (x = (j : Int)) = false := decide_eq_false hx
        clear e2
        go_wp2
        rotate_left
        · exfalso; simp_all
        go_ret
        exact ⟨ret_b (unhide HF).symm, rfl⟩
    · obtain rfl : j = xs.length := by omega
      have HG : Hid (mtB xs = true) := hide (mt_good (unhide H8) hg)
      clear hg
      go_wp2
      go_ret
      exact ⟨ret_b (unhide HG).symm, rfl⟩
theorem match27 (v : Value) (xs : List Int) (w : World) (hv : intsV w v xs) (hl : xs.length ≤ 1048576) : Calls Try.prog 12 #[v] w fun e w' => e = .returned (.bool (mtB xs)) ∧ w' = w := by
  obtain ⟨A, cap, rfl, hcell⟩ := hv
  have HC := hide hcell
  have n0 : (0 : Int) ≤ (xs.length : Int) := by omega
  have n1 : (xs.length : Int) ≤ 1048576 := by omega
  clear hcell
  by_cases h8 : 8 < xs.length
  · have HF : Hid (mtB xs = false) := hide (by unfold mtB; rw [decide_eq_false (by omega)]; rfl)
    have q : (8 : Int) < (xs.length : Int) := by omega
    by_cases h9 : 4096 < xs.length
    · have q2 : (4096 : Int) < (xs.length : Int) := by omega
      clear h8 h9 hl HC
      go_enter Try.func12, Try.ntmps12
      go_wp2
      go_ret
      exact ⟨ret_b (unhide HF).symm, rfl⟩
    · have q2 : (xs.length : Int) ≤ 4096 := by omega
      clear h8 h9 hl HC
      go_enter Try.func12, Try.ntmps12
      go_wp2
      go_ret
      exact ⟨ret_b (unhide HF).symm, rfl⟩
  have H8 := hide (show xs.length ≤ 8 by omega)
  have q : (xs.length : Int) ≤ 8 := by omega
  clear h8 hl n1
  go_enter Try.func12, Try.ntmps12
  go_wp2
  go_loopw [3] (fun i wr => ∃ j : Nat, j ≤ xs.length ∧ i = .int .i64 j ∧ (∀ k, k < j → prB xs k = true) ∧ wr = w) (fun i _ => xs.length - (intOf i).toNat)
  case atStart => exact ⟨0, by omega, rfl, fun k hk => absurd hk (Nat.not_lt_zero k), rfl⟩
  case round =>
    obtain ⟨j, hj, rfl, hg, hwr⟩ := hrel
    subst hwr
    by_cases hlt : j < xs.length
    · obtain ⟨b, off, hA, hbb, hcell⟩ := unhide HC (by omega)
      subst hA
      have q1 : (j : Int) < (xs.length : Int) := by omega
      have q0 : (0 : Int) ≤ (j : Int) := by omega
      have p0 := hcell j hlt
      have HJ := hide hlt
      have HG := hide hg
      have HCC := hide hcell
      have F0 := hide (fun (h : xs.getD j 0 < 0) => mt_bad hlt (pr_lo h))
      have F1 := hide (fun (h : (xs.length : Int) ≤ xs.getD j 0) => mt_bad hlt (pr_hi h))
      have F2 := hide (fun (h0 : 0 ≤ xs.getD j 0) (h1 : xs.getD j 0 < (xs.length : Int)) => pr_in h0 h1)
      clear hcell hlt hj hbb hg
      generalize hcx : xs.getD j 0 = c at *
      have HX := hide hcx
      clear hcx
      by_cases hc0 : c < 0
      · have HF := hide (unhide F0 hc0)
        clear F0 F1 F2
        go_wp2_with fail
        refine (in48 _ _ _ _).mono ?_
        rintro e w' ⟨rfl, hw'⟩
        have hw2 := hw'.symm
        subst hw2
        rw [decide_eq_false (show ¬ (0 : Int) ≤ c by omega), Bool.false_and]
        go_wp2
        go_ret
        exact ⟨ret_b (unhide HF).symm, rfl⟩
      by_cases hc1 : (xs.length : Int) ≤ c
      · have HF := hide (unhide F1 hc1)
        have hc2 : 0 ≤ c := by omega
        clear F0 F1 F2 hc0
        go_wp2_with fail
        refine (in48 _ _ _ _).mono ?_
        rintro e w' ⟨rfl, hw'⟩
        have hw2 := hw'.symm
        subst hw2
        rw [decide_eq_false (show ¬ c ≤ (xs.length : Int) - 1 by omega), Bool.and_false]
        go_wp2
        go_ret
        exact ⟨ret_b (unhide HF).symm, rfl⟩
      obtain ⟨m, rfl⟩ : ∃ m : Nat, c = (m : Int) := ⟨c.toNat, by omega⟩
      have m1 : (m : Int) < (xs.length : Int) := by omega
      have m0 : (0 : Int) ≤ (m : Int) := by omega
      have p1 := unhide HCC m (by omega)
      have e2 := unhide F2 m0 m1
      rw [Int.toNat_natCast] at e2
      clear F0 F1 F2 hc0 hc1 HCC
      generalize xs.getD m 0 = x at *
      by_cases hx : x = (j : Int)
      · have HE : Hid (prB xs j = true) := hide (by rw [e2]; exact decide_eq_true hx)
        clear e2
        subst hx
        go_wp2_with fail
        refine (in48 _ _ _ _).mono ?_
        rintro e w' ⟨rfl, hw'⟩
        have hw2 := hw'.symm
        subst hw2
        rw [decide_eq_true (show (0 : Int) ≤ (m : Int) by omega), decide_eq_true (show (m : Int) ≤ (xs.length : Int) - 1 by omega)]
        go_wp2
        go_roundw
        case rel => exact ⟨j + 1, unhide HJ, by go_num, fun k hk => by rcases Nat.lt_succ_iff_lt_or_eq.1 hk with h | h; exact unhide HG k h; rw [h]; exact unhide HE, by first | rfl | trivial⟩
        case measure => have := unhide HJ; simp [intOf]; omega
      · have HF : Hid (mtB xs = false) := hide (mt_bad (unhide HJ) (by rw [e2]; exact decide_eq_false hx))
        have hx2 : decide (x = (j : Int)) = false := decide_eq_false hx
        clear e2
        go_wp2_with fail
        refine (in48 _ _ _ _).mono ?_
        rintro e w' ⟨rfl, hw'⟩
        have hw2 := hw'.symm
        subst hw2
        rw [decide_eq_true (show (0 : Int) ≤ (m : Int) by omega), decide_eq_true (show (m : Int) ≤ (xs.length : Int) - 1 by omega)]
        go_wp2
        go_ret
        exact ⟨ret_b (unhide HF).symm, rfl⟩
    · obtain rfl : j = xs.length := by omega
      have HG : Hid (mtB xs = true) := hide (mt_good (unhide H8) hg)
      clear hg
      go_wp2
      go_ret
      exact ⟨ret_b (unhide HG).symm, rfl⟩
end Go.Proofs.Ytkefbmcipdiieaa
