/- Numbers below a bound: both sides. -/
import Derived.Test.YtfodcnnaeakhfaaInts
import Derived.OwnWalk
namespace Go.Proofs.Ytfodcnnaeakhfaa
open Go.RowKit
set_option maxHeartbeats 4000000
set_option maxRecDepth 20000
def isW (x : Int) : Bool := decide (0 ≤ x) && decide (x ≤ 65535)
def wOK (xs : List Int) : Bool := decide (xs.length ≤ 2000) && xs.all isW
theorem wOK_long {xs : List Int} (h : 2000 < xs.length) : wOK xs = false := by
  unfold wOK; rw [decide_eq_false (by omega)]; rfl
theorem wOK_bad {xs : List Int} {j : Nat} (h : j < xs.length) (hb : isW (xs.getD j 0) = false) : wOK xs = false := by
  unfold wOK
  rw [show xs.all isW = false from List.all_eq_false.2 ⟨xs.getD j 0, by rw [List.getD_eq_getElem?_getD, List.getElem?_eq_getElem h]; exact List.getElem_mem h, by rw [hb]; simp⟩, Bool.and_false]
theorem wOK_good {xs : List Int} (h : xs.length ≤ 2000) (hg : ∀ i, i < xs.length → isW (xs.getD i 0) = true) : wOK xs = true := by
  unfold wOK
  rw [decide_eq_true h, Bool.true_and, List.all_eq_true]
  intro x hx
  obtain ⟨i, hi, rfl⟩ := List.mem_iff_getElem.1 hx
  have := hg i hi
  rwa [List.getD_eq_getElem?_getD, List.getElem?_eq_getElem hi] at this
theorem wOK_at {xs : List Int} (h : wOK xs = true) (i : Nat) (hi : i < xs.length) : 0 ≤ xs.getD i 0 ∧ xs.getD i 0 ≤ 65535 := by
  unfold wOK at h
  rw [Bool.and_eq_true, List.all_eq_true] at h
  have := h.2 (xs.getD i 0) (by rw [List.getD_eq_getElem?_getD, List.getElem?_eq_getElem hi]; exact List.getElem_mem hi)
  simpa [isW] using this
theorem wOK_len {xs : List Int} (h : wOK xs = true) : xs.length ≤ 2000 := by
  unfold wOK at h
  rw [Bool.and_eq_true] at h
  exact of_decide_eq_true h.1
theorem words11 (v : Value) (xs : List Int) (w : World) (hv : intsV w v xs) (hn : xs.length ≤ 2097152) :
    Calls Try.prog 37 #[v] w fun e w' => e = .returned (.bool (wOK xs)) ∧ w' = w := by
  obtain ⟨A, cap, rfl, hc⟩ := hv
  have HC := hide hc
  have n0 : (0 : Int) ≤ (xs.length : Int) := by omega
  have n1 : (xs.length : Int) ≤ 2097152 := by omega
  clear hc
  by_cases hl : 2000 < xs.length
  · rw [wOK_long hl]
    have q : (2000 : Int) < (xs.length : Int) := by omega
    clear hl hn
    go_enter Try.func37, Try.ntmps37
    go_wp2
    go_ret
    exact ⟨rfl, rfl⟩
  have q : (xs.length : Int) ≤ 2000 := by omega
  have HL := hide (show xs.length ≤ 2000 by omega)
  clear hl hn
  go_enter Try.func37, Try.ntmps37
  go_wp2
  go_loopw [3] (fun i wr => ∃ j : Nat, j ≤ xs.length ∧ i = .int .i64 j ∧ (∀ i, i < j → isW (xs.getD i 0) = true) ∧ wr = w) (fun i _ => xs.length - (intOf i).toNat)
  case atStart => exact ⟨0, by omega, rfl, fun _ h => absurd h (Nat.not_lt_zero _), rfl⟩
  case round =>
    obtain ⟨j, hj, rfl, hg, rfl⟩ := hrel
    have HG := hide hg
    clear hg
    by_cases hlt : j < xs.length
    · obtain ⟨b, off, hA, _, hcell⟩ := unhide HC (by omega)
      subst hA
      have q1 : (j : Int) < (xs.length : Int) := by omega
      have q0 : (0 : Int) ≤ (j : Int) := by omega
      have p0 := hcell j hlt
      have HJ := hide hlt
      clear hcell hlt hj
      have K := hide (fun W => in19 (xs.getD j 0) 0 65535 W)
      generalize hx : xs.getD j 0 = x at *
      have HX := hide hx
      clear hx
      rw [show (decide (0 ≤ x) && decide (x ≤ 65535)) = isW x from rfl] at K
      generalize hb : isW x = bb at *
      cases bb
      · have HE := hide (wOK_bad (unhide HJ) (by rw [unhide HX]; exact hb))
        clear hb
        go_wp2_with fail
        refine (unhide K _).mono ?_
        rintro e w' ⟨rfl, rfl⟩
        clear K
        go_wp2
        go_ret
        exact ⟨ret_bool (unhide HE).symm, rfl⟩
      · have HB := hide hb
        clear hb
        go_wp2_with fail
        refine (unhide K _).mono ?_
        rintro e w' ⟨rfl, rfl⟩
        clear K
        go_wp2
        go_roundw
        case rel => exact ⟨j + 1, unhide HJ, by go_num, fun i hi => by
          rcases Nat.lt_or_ge i j with h | h
          · exact unhide HG i h
          · obtain rfl : i = j := by omega
            rw [unhide HX]; exact unhide HB, by first | rfl | trivial⟩
        case measure => have := unhide HJ; simp [intOf]; omega
    · obtain rfl : j = xs.length := by omega
      have HE := hide (wOK_good (unhide HL) (unhide HG))
      clear hlt
      go_wp2
      go_ret
      exact ⟨ret_bool (unhide HE).symm, rfl⟩
/-- the first below top, what is left of it, how many were taken -/
def uF (top n : Int) : List Int → Int → Int × Int × Bool
  | [], k => (0, k, false)
  | x :: xs, k => if x < top then (x % n, k + 1, true) else uF top n xs (k + 1)
theorem drop_at {xs : List Int} {j : Nat} (h : j < xs.length) : xs.drop j = xs.getD j 0 :: xs.drop (j + 1) := by
  rw [List.drop_eq_getElem_cons h, List.getD_eq_getElem?_getD, List.getElem?_eq_getElem h]; rfl
abbrev uV (r : Int × Int × Bool) : Value := .tuple #[.int .i64 r.1, .int .i64 r.2.1, .bool r.2.2]
theorem top_is (n : Int) : 65536 / n * n = 65536 - 65536 % n := by
  have := Int.mul_ediv_add_emod 65536 n
  rw [Int.mul_comm] at this
  omega
theorem top_bd (n : Int) (h : 1 ≤ n) : 0 ≤ 65536 - 65536 % n ∧ 65536 - 65536 % n ≤ 65536 := by
  have h1 := Int.emod_nonneg 65536 (show n ≠ 0 by omega)
  have h2 : 0 ≤ 65536 / n * n := Int.mul_nonneg (Int.ediv_nonneg (by omega) (by omega)) (by omega)
  rw [top_is n] at h2
  omega
theorem uni13 (v : Value) (xs : List Int) (n : Int) (w : World) (hv : intsV w v xs) (hk : wOK xs = true) (hn : 1 ≤ n) (hn' : n ≤ 65536) :
    Calls Try.prog 48 #[v, .int .i64 n] w fun e w' => e = .returned (uV (uF (65536 - 65536 % n) n xs 0)) ∧ w' = w := by
  have hl := wOK_len hk
  obtain ⟨A, cap, rfl, hc⟩ := hv
  have HC := hide hc
  have n0 : (0 : Int) ≤ (xs.length : Int) := by omega
  have n1 : (xs.length : Int) ≤ 2000 := by omega
  have HK := hide hk
  have t1 : Int.tdiv 65536 n = 65536 / n := by rw [Int.tdiv_eq_ediv_of_nonneg (by omega)]
  have t2 := top_is n
  have ⟨t3, t4⟩ := top_bd n hn
  have t5 : 0 ≤ 65536 / n := Int.ediv_nonneg (by omega) (by omega)
  have t6 : 65536 / n ≤ 65536 := Int.ediv_le_self _ (by omega)
  generalize 65536 / n = k at *
  generalize 65536 - 65536 % n = top at *
  clear hc hk hl
  go_enter Try.func48, Try.ntmps48
  go_wp2
  go_loopw [8] (fun i wr => ∃ j : Nat, j ≤ xs.length ∧ i = .int .i64 j ∧ uF top n (xs.drop j) (j : Int) = uF top n xs 0 ∧ wr = w) (fun i _ => xs.length - (intOf i).toNat)
  case atStart => exact ⟨0, by omega, rfl, rfl, rfl⟩
  case round =>
    obtain ⟨j, hj, rfl, hu, rfl⟩ := hrel
    have HU := hide hu
    clear hu
    by_cases hlt : j < xs.length
    · obtain ⟨b, off, hA, _, hcell⟩ := unhide HC (by omega)
      subst hA
      have q1 : (j : Int) < (xs.length : Int) := by omega
      have q0 : (0 : Int) ≤ (j : Int) := by omega
      have p0 := hcell j hlt
      have HJ := hide hlt
      obtain ⟨x0, x1⟩ := wOK_at (unhide HK) j hlt
      have HD := hide (drop_at hlt)
      clear hcell hlt hj
      generalize xs.getD j 0 = x at *
      have t7 : Int.tmod x n = x % n := by rw [Int.tmod_eq_emod_of_nonneg x0]
      by_cases hx : x < top
      · have HE : Hid (uF top n xs 0 = (x % n, (j : Int) + 1, true)) := hide (by rw [← unhide HU, unhide HD, uF, if_pos hx])
        have m0 : 0 ≤ x % n := Int.emod_nonneg _ (by omega)
        have m1 : x % n ≤ 65536 := by have := Int.emod_lt_of_pos x (show 0 < n by omega); omega
        generalize x % n = m at *
        clear HU HD
        go_wp2
        go_ret3
        exact ⟨by rw [unhide HE]; rfl, rfl⟩
      · have hx' : top ≤ x := by omega
        have HE : Hid (uF top n (xs.drop (j + 1)) ((j : Int) + 1) = uF top n xs 0) := hide (by rw [← unhide HU, unhide HD, uF, if_neg hx])
        clear hx HU HD t7
        go_wp2
        go_roundw
        case rel => exact ⟨j + 1, unhide HJ, by go_num, by rw [← unhide HE]; rfl, by first | rfl | trivial⟩
        case measure => have := unhide HJ; simp [intOf]; omega
    · obtain rfl : j = xs.length := by omega
      have HE : Hid (uF top n xs 0 = (0, (xs.length : Int), false)) := hide (by rw [← unhide HU, List.drop_length, uF])
      clear hlt HU
      go_wp2
      go_ret3
      exact ⟨by rw [unhide HE]; rfl, rfl⟩
theorem no19 (x : Int) (w : World) : Calls Try.prog 46 #[.int .i64 x] w fun e w' => e = .returned (.bool (!isW x)) ∧ w' = w := by
  unfold isW
  go_enter Try.func46, Try.ntmps46
  go_wp2
  all_goals
    go_ret
    exact ⟨ret_bool (by rw [Bool.eq_iff_iff]; simp; try omega), rfl⟩
/-- the place of the first that is no word, or -1 -/
def badAt : List Int → Int → Int
  | [], _ => -1
  | x :: xs, k => if isW x then badAt xs (k + 1) else k
abbrev fn19 : Value := .func (.func 46) #[] #[]
theorem idx20 (v : Value) (xs : List Int) (w : World) (hv : intsV w v xs) (hn : xs.length ≤ 2097152) :
    Calls Try.prog 50 #[v, fn19] w fun e w' => e = .returned (.int .i64 (badAt xs 0)) ∧ w' = w := by
  obtain ⟨A, cap, rfl, hc⟩ := hv
  have HC := hide hc
  have n0 : (0 : Int) ≤ (xs.length : Int) := by omega
  have n1 : (xs.length : Int) ≤ 2097152 := by omega
  clear hc
  go_enter Try.func50, Try.ntmps50
  go_wp2
  go_loopw [8] (fun i wr => ∃ j : Nat, j ≤ xs.length ∧ i = .int .i64 j ∧ badAt (xs.drop j) (j : Int) = badAt xs 0 ∧ wr = w) (fun i _ => xs.length - (intOf i).toNat)
  case atStart => exact ⟨0, by omega, rfl, rfl, rfl⟩
  case round =>
    obtain ⟨j, hj, rfl, hu, rfl⟩ := hrel
    have HU := hide hu
    clear hu
    by_cases hlt : j < xs.length
    · obtain ⟨b, off, hA, _, hcell⟩ := unhide HC (by omega)
      subst hA
      have q1 : (j : Int) < (xs.length : Int) := by omega
      have q0 : (0 : Int) ≤ (j : Int) := by omega
      have p0 := hcell j hlt
      have HJ := hide hlt
      have HD := hide (drop_at hlt)
      clear hcell hlt hj
      generalize xs.getD j 0 = x at *
      have K := hide (fun W => no19 x W)
      generalize hb : isW x = bb at *
      cases bb
      · have HE : Hid (badAt xs 0 = (j : Int)) := hide (by rw [← unhide HU, unhide HD, badAt, hb]; rfl)
        clear HU HD hb
        go_wp2_with fail
        refine (unhide K _).mono ?_
        rintro e w' ⟨rfl, rfl⟩
        clear K
        go_wp2
        go_ret
        exact ⟨by rw [unhide HE]; rfl, rfl⟩
      · have HE : Hid (badAt (xs.drop (j + 1)) ((j : Int) + 1) = badAt xs 0) := hide (by rw [← unhide HU, unhide HD, badAt, hb]; rfl)
        clear HU HD hb
        go_wp2_with fail
        refine (unhide K _).mono ?_
        rintro e w' ⟨rfl, rfl⟩
        clear K
        go_wp2
        go_roundw
        case rel => exact ⟨j + 1, unhide HJ, by go_num, by rw [← unhide HE]; rfl, by first | rfl | trivial⟩
        case measure => have := unhide HJ; simp [intOf]; omega
    · obtain rfl : j = xs.length := by omega
      have HE : Hid (badAt xs 0 = -1) := hide (by rw [← unhide HU, List.drop_length, badAt])
      clear hlt HU
      go_wp2
      go_ret
      exact ⟨by rw [unhide HE]; rfl, rfl⟩
theorem bad_all : ∀ (xs : List Int) (k : Int), 0 ≤ k → (badAt xs k = -1 ∧ xs.all isW = true) ∨ (0 ≤ badAt xs k ∧ xs.all isW = false)
  | [], k, _ => .inl ⟨rfl, rfl⟩
  | x :: xs, k, h => by
    rw [badAt, List.all_cons]
    cases isW x
    · exact .inr ⟨h, rfl⟩
    · rw [Bool.true_and]; exact bad_all xs (k + 1) (by omega)
theorem has18 (v : Value) (xs : List Int) (w : World) (hv : intsV w v xs) (hn : xs.length ≤ 2097152) :
    Calls Try.prog 45 #[v, fn19] w fun e w' => e = .returned (.bool (!xs.all isW)) ∧ w' = w := by
  have K := hide (fun W (hW : intsV W v xs) => idx20 v xs W hW hn)
  have HV := hide hv
  obtain ⟨A, cap, rfl, _⟩ := hv
  have hb := bad_all xs 0 (Int.le_refl _)
  generalize badAt xs 0 = k at *
  clear hn
  go_enter Try.func45, Try.ntmps45
  go_wp2_with fail
  refine (unhide K _ (unhide HV)).mono ?_
  rintro e w' ⟨rfl, rfl⟩
  clear K HV
  rcases hb with ⟨h1, h2⟩ | ⟨h1, h2⟩
  · have HE := hide h2
    subst h1
    clear h2
    go_wp2
    go_ret
    exact ⟨ret_bool (by rw [unhide HE]; rfl), rfl⟩
  · have HE := hide h2
    clear h2
    go_wp2
    go_ret
    exact ⟨ret_bool (by rw [unhide HE]; simp; try omega), rfl⟩
def wCode (xs : List Int) : Int := if 4096 < xs.length then 2 else if wOK xs then 0 else 1
theorem long17 (v : Value) (xs : List Int) (w : World) (hv : intsV w v xs) (hn : xs.length ≤ 2097152) :
    Calls Try.prog 43 #[v] w fun e w' => e = .returned (.bool (decide (4096 < xs.length))) ∧ w' = w := by
  obtain ⟨A, cap, rfl, hc⟩ := hv
  clear hc
  have n0 : (0 : Int) ≤ (xs.length : Int) := by omega
  have n1 : (xs.length : Int) ≤ 2097152 := by omega
  go_enter Try.func43, Try.ntmps43
  go_wp2
  go_ret
  exact ⟨ret_bool (by rw [Bool.eq_iff_iff]; simp; try omega), rfl⟩
theorem code14 (v : Value) (xs : List Int) (w : World) (hv : intsV w v xs) (hn : xs.length ≤ 2097152) :
    Calls Try.prog 35 #[v] w fun e w' => e = .returned (.int .i64 (wCode xs)) ∧ w' = w := by
  have K17 := hide (long17 v xs w hv hn)
  have K18 := hide (has18 v xs w hv hn)
  obtain ⟨A, cap, rfl, hc⟩ := hv
  clear hc
  have n0 : (0 : Int) ≤ (xs.length : Int) := by omega
  have n1 : (xs.length : Int) ≤ 2097152 := by omega
  by_cases h1 : 4096 < xs.length
  · rw [decide_eq_true h1] at K17
    have HE : Hid (wCode xs = 2) := hide (by unfold wCode; rw [if_pos h1])
    clear h1 hn K18
    go_enter Try.func35, Try.ntmps35
    go_wp2_with fail
    refine (unhide K17).mono ?_
    rintro e w' ⟨rfl, rfl⟩
    clear K17
    go_wp2
    go_ret
    exact ⟨by rw [unhide HE]; rfl, rfl⟩
  rw [decide_eq_false h1] at K17
  by_cases h2 : 2000 < xs.length
  · have HE : Hid (wCode xs = 1) := hide (by unfold wCode; rw [if_neg h1, wOK_long h2]; rfl)
    have q : (2000 : Int) < (xs.length : Int) := by omega
    clear h1 h2 hn K18
    go_enter Try.func35, Try.ntmps35
    go_wp2_with fail
    refine (unhide K17).mono ?_
    rintro e w' ⟨rfl, rfl⟩
    clear K17
    go_wp2
    go_ret
    exact ⟨by rw [unhide HE]; rfl, rfl⟩
  have q : (xs.length : Int) ≤ 2000 := by omega
  have HE : Hid (wCode xs = if xs.all isW then 0 else 1) := hide (by unfold wCode wOK; rw [if_neg h1, decide_eq_true (by omega), Bool.true_and])
  clear h1 h2 hn
  generalize xs.all isW = bb at *
  go_enter Try.func35, Try.ntmps35
  go_wp2_with fail
  refine (unhide K17).mono ?_
  rintro e w' ⟨rfl, rfl⟩
  clear K17
  go_wp2_with fail
  refine (unhide K18).mono ?_
  rintro e w' ⟨rfl, rfl⟩
  clear K18
  cases bb
  · go_wp2
    go_ret
    exact ⟨by rw [unhide HE]; rfl, rfl⟩
  · go_wp2
    go_ret
    exact ⟨by rw [unhide HE]; rfl, rfl⟩
theorem uni16 (v : Value) (xs : List Int) (n : Int) (w : World) (hv : intsV w v xs) (hk : wOK xs = true) (hn : 1 ≤ n) (hn' : n ≤ 65536) :
    Calls Try.prog 52 #[v, .int .i64 n] w fun e w' => e = .returned (uV (uF (65536 - 65536 % n) n xs 0)) ∧ w' = w := by
  have hl := wOK_len hk
  obtain ⟨A, cap, rfl, hc⟩ := hv
  have HC := hide hc
  have n0 : (0 : Int) ≤ (xs.length : Int) := by omega
  have n1 : (xs.length : Int) ≤ 2000 := by omega
  have HK := hide hk
  have t1 : Int.tmod 65536 n = 65536 % n := by rw [Int.tmod_eq_emod_of_nonneg (by omega)]
  have ⟨t3, t4⟩ := top_bd n hn
  have t5 : 0 ≤ 65536 % n := Int.emod_nonneg _ (by omega)
  generalize 65536 % n = k at *
  clear hc hk hl
  go_enter Try.func52, Try.ntmps52
  go_wp2
  go_loopw [11] (fun i wr => ∃ j : Nat, j ≤ xs.length ∧ i = .int .i64 j ∧ uF (65536 - k) n (xs.drop j) (j : Int) = uF (65536 - k) n xs 0 ∧ wr = w) (fun i _ => xs.length - (intOf i).toNat)
  case atStart => exact ⟨0, by omega, rfl, rfl, rfl⟩
  case round =>
    obtain ⟨j, hj, rfl, hu, rfl⟩ := hrel
    have HU := hide hu
    clear hu
    by_cases hlt : j < xs.length
    · obtain ⟨b, off, hA, _, hcell⟩ := unhide HC (by omega)
      subst hA
      have q1 : (j : Int) < (xs.length : Int) := by omega
      have q0 : (0 : Int) ≤ (j : Int) := by omega
      have p0 := hcell j hlt
      have HJ := hide hlt
      obtain ⟨x0, x1⟩ := wOK_at (unhide HK) j hlt
      have HD := hide (drop_at hlt)
      clear hcell hlt hj
      generalize xs.getD j 0 = x at *
      have t7 : Int.tmod x n = x % n := by rw [Int.tmod_eq_emod_of_nonneg x0]
      by_cases hx : x < 65536 - k
      · have HE : Hid (uF (65536 - k) n xs 0 = (x % n, (j : Int) + 1, true)) := hide (by rw [← unhide HU, unhide HD, uF, if_pos hx])
        have m0 : 0 ≤ x % n := Int.emod_nonneg _ (by omega)
        have m1 : x % n ≤ 65536 := by have := Int.emod_lt_of_pos x (show 0 < n by omega); omega
        generalize x % n = m at *
        clear HU HD
        go_wp2
        go_ret3
        exact ⟨by rw [unhide HE]; rfl, rfl⟩
      · have hx' : 65536 - k ≤ x := by omega
        have HE : Hid (uF (65536 - k) n (xs.drop (j + 1)) ((j : Int) + 1) = uF (65536 - k) n xs 0) := hide (by rw [← unhide HU, unhide HD, uF, if_neg hx])
        clear hx HU HD t7
        go_wp2
        go_roundw
        case rel => exact ⟨j + 1, unhide HJ, by go_num, by rw [← unhide HE]; rfl, by first | rfl | trivial⟩
        case measure => have := unhide HJ; simp [intOf]; omega
    · obtain rfl : j = xs.length := by omega
      have HE : Hid (uF (65536 - k) n xs 0 = (0, (xs.length : Int), false)) := hide (by rw [← unhide HU, List.drop_length, uF])
      clear hlt HU
      go_wp2
      go_ret3
      exact ⟨by rw [unhide HE]; rfl, rfl⟩
end Go.Proofs.Ytfodcnnaeakhfaa
