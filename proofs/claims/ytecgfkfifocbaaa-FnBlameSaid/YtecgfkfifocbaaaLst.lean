/- Lists of texts: those that are long, the first that is not so, drops that are right; both sides. -/
import Derived.Test.YtecgfkfifocbaaaStr
namespace Go.Proofs.Ytecgfkfifocbaaa
open Go.RowKit
set_option maxHeartbeats 4000000
set_option maxRecDepth 20000
theorem drop_atS {ts : List ByteArray} {j : Nat} (h : j < ts.length) : ts.drop j = ts.getD j noS :: ts.drop (j + 1) := by
  rw [List.getD_eq_getElem?_getD, List.getElem?_eq_getElem h, Option.getD_some]
  exact List.drop_eq_getElem_cons h
theorem all_at {ks : List ByteArray} {P : ByteArray → Bool} (h : ks.all P = true) (j : Nat) (hj : j < ks.length) : P (ks.getD j noS) = true := by
  rw [List.getD_eq_getElem?_getD, List.getElem?_eq_getElem hj]
  exact List.all_eq_true.1 h _ (List.getElem_mem hj)
theorem all_no {ks : List ByteArray} {P : ByteArray → Bool} (j : Nat) (hj : j < ks.length) (h : P (ks.getD j noS) = false) : ks.all P = false := by
  rw [List.all_eq_false]
  refine ⟨ks.getD j noS, ?_, by rw [h]; decide⟩
  rw [List.getD_eq_getElem?_getD, List.getElem?_eq_getElem hj]
  exact List.getElem_mem hj
theorem all_yes {ks : List ByteArray} {P : ByteArray → Bool} (h : ∀ j, j < ks.length → P (ks.getD j noS) = true) : ks.all P = true := by
  rw [List.all_eq_true]
  intro x hx
  obtain ⟨j, hj, rfl⟩ := List.mem_iff_getElem.1 hx
  have := h j hj
  rwa [List.getD_eq_getElem?_getD, List.getElem?_eq_getElem hj] at this
/-- the place of the first one that is not so -/
def badP (P : ByteArray → Bool) : List ByteArray → Int → Int
  | [], _ => -1
  | x :: xs, k => if P x then badP P xs (k + 1) else k
theorem badP_all (P : ByteArray → Bool) : ∀ (xs : List ByteArray) (k : Int), 0 ≤ k → (badP P xs k = -1 ∧ xs.all P = true) ∨ (k ≤ badP P xs k ∧ xs.all P = false)
  | [], _, _ => .inl ⟨rfl, rfl⟩
  | x :: xs, k, h => by
    rw [badP, List.all_cons]
    cases hx : P x
    · right; exact ⟨Int.le_refl _, rfl⟩
    · rw [if_pos rfl, Bool.true_and]
      rcases badP_all P xs (k + 1) (by omega) with ⟨a, b⟩ | ⟨a, b⟩
      · exact .inl ⟨a, b⟩
      · exact .inr ⟨by omega, b⟩
theorem long34 (v : Value) (ts : List ByteArray) (w : World) (hv : strsV w v ts) (hn : ts.length ≤ 2097152) :
    Calls Try.prog 34 #[v] w fun e w' => e = .returned (.bool (decide (4096 < ts.length))) ∧ w' = w := by
  obtain ⟨A, cap, rfl, hc⟩ := hv
  clear hc
  have n0 : (0 : Int) ≤ (ts.length : Int) := by omega
  have n1 : (ts.length : Int) ≤ 2097152 := by omega
  go_enter Try.func34, Try.ntmps34
  go_wp2
  go_ret
  exact ⟨ret_bool (by rw [Bool.eq_iff_iff]; simp; try omega), rfl⟩
/-- an item's length -/
def isI (k : ByteArray) : Bool := decide (k.size ≤ 400)
theorem no33 (s : ByteArray) (w : World) : Calls Try.prog 33 #[.string s] w fun e w' => e = .returned (.bool (!isI s)) ∧ w' = w := by
  go_enter Try.func33, Try.ntmps33
  go_wp2
  go_ret
  exact ⟨ret_bool (by unfold isI; rw [Bool.eq_iff_iff]; simp; try omega), rfl⟩
abbrev fn33 : Value := .func (.func 33) #[] #[]
theorem idx33 (v : Value) (xs : List ByteArray) (w : World) (hv : strsV w v xs) (hn : xs.length ≤ 2097152) :
    Calls Try.prog 46 #[v, fn33] w fun e w' => e = .returned (.int .i64 (badP isI xs 0)) ∧ w' = w := by
  obtain ⟨A, cap, rfl, hc⟩ := hv
  have HC := hide hc
  have n0 : (0 : Int) ≤ (xs.length : Int) := by omega
  have n1 : (xs.length : Int) ≤ 2097152 := by omega
  clear hc
  go_enter Try.func46, Try.ntmps46
  go_wp2
  go_loopw [8] (fun i wr => ∃ j : Nat, j ≤ xs.length ∧ i = .int .i64 j ∧ badP isI (xs.drop j) (j : Int) = badP isI xs 0 ∧ wr = w) (fun i _ => xs.length - (intOf i).toNat)
  case atStart => exact ⟨0, by omega, rfl, rfl, rfl⟩
  case round =>
    obtain ⟨j, hj, rfl, hu, rfl⟩ := hrel
    have HU := hide hu
    clear hu
    by_cases hlt : j < xs.length
    · obtain ⟨b, off, hA, _, hcell⟩ := unhide HC (by omega)
      subst hA
      have q1 : (j : Int) < (xs.length : Int) := by omega
      have q0 : (0 : Int) ≤ (j : Int) := by omega
      have p0 := hcell j hlt
      have HJ := hide hlt
      have HD := hide (drop_atS hlt)
      clear hcell hlt hj
      generalize xs.getD j noS = x at *
      have K := hide (fun W => no33 x W)
      generalize hb : isI x = bb at *
      cases bb
      · have HE : Hid (badP isI xs 0 = (j : Int)) := hide (by rw [← unhide HU, unhide HD, badP, hb]; rfl)
        clear HU HD hb
        go_wp2_with fail
        refine (unhide K _).mono ?_
        rintro e w' ⟨rfl, hw'⟩
        have hw2 := hw'.symm
        subst hw2
        clear K
        go_wp2
        go_ret
        exact ⟨by rw [unhide HE]; rfl, rfl⟩
      · have HE : Hid (badP isI (xs.drop (j + 1)) ((j : Int) + 1) = badP isI xs 0) := hide (by rw [← unhide HU, unhide HD, badP, hb]; rfl)
        clear HU HD hb
        go_wp2_with fail
        refine (unhide K _).mono ?_
        rintro e w' ⟨rfl, hw'⟩
        have hw2 := hw'.symm
        subst hw2
        clear K
        go_wp2
        go_roundw
        case rel => exact ⟨j + 1, unhide HJ, by go_num, unhide HE, by first | rfl | trivial⟩
        case measure => have := unhide HJ; simp [intOf]; omega
    · obtain rfl : j = xs.length := by omega
      have HE : Hid (badP isI xs 0 = -1) := hide (by rw [← unhide HU, List.drop_length]; rfl)
      clear hlt HU
      go_wp2
      go_ret
      exact ⟨by rw [unhide HE]; rfl, rfl⟩
theorem has33 (v : Value) (xs : List ByteArray) (w : World) (hv : strsV w v xs) (hn : xs.length ≤ 2097152) :
    Calls Try.prog 45 #[v, fn33] w fun e w' => e = .returned (.bool (!xs.all isI)) ∧ w' = w := by
  have K := hide (fun W (hW : strsV W v xs) => idx33 v xs W hW hn)
  have HV := hide hv
  obtain ⟨A, cap, rfl, _⟩ := hv
  have hb := badP_all isI xs 0 (Int.le_refl _)
  generalize badP isI xs 0 = k at *
  clear hn
  go_enter Try.func45, Try.ntmps45
  go_wp2_with fail
  refine (unhide K _ (unhide HV)).mono ?_
  rintro e w' ⟨rfl, hw'⟩
  have hw2 := hw'.symm
  subst hw2
  clear K HV
  rcases hb with ⟨h1, h2⟩ | ⟨h1, h2⟩
  · have HE := hide h2
    subst h1
    clear h2
    go_wp2
    go_ret
    exact ⟨ret_bool (by rw [unhide HE]; rfl), rfl⟩
  · have HE := hide h2
    clear h2
    go_wp2
    go_ret
    exact ⟨ret_bool (by rw [unhide HE]; simp; try omega), rfl⟩
def itB (ts : List ByteArray) : Bool := decide (ts.length ≤ 64) && ts.all isI
theorem list42 (v : Value) (xs : List ByteArray) (w : World) (hv : strsV w v xs) (hn : xs.length ≤ 2097152) :
    Calls Try.prog 42 #[v, fn33] w fun e w' => e = .returned (.bool (itB xs)) ∧ w' = w := by
  have K := hide (has33 v xs w hv hn)
  obtain ⟨A, cap, rfl, _⟩ := hv
  have n0 : (0 : Int) ≤ (xs.length : Int) := by omega
  have n1 : (xs.length : Int) ≤ 2097152 := by omega
  unfold itB
  by_cases h : xs.length ≤ 64
  · rw [decide_eq_true h, Bool.true_and]
    have q : (xs.length : Int) ≤ 64 := by omega
    clear h hn
    generalize xs.all isI = bb at *
    go_enter Try.func42, Try.ntmps42
    go_wp2_with fail
    refine (unhide K).mono ?_
    rintro e w' ⟨rfl, hw'⟩
    have hw2 := hw'.symm
    subst hw2
    clear K
    cases bb
    · go_wp2
      go_ret
      exact ⟨rfl, rfl⟩
    · go_wp2
      go_ret
      exact ⟨rfl, rfl⟩
  · rw [decide_eq_false h, Bool.false_and]
    have q : (64 : Int) < (xs.length : Int) := by omega
    clear h hn K
    go_enter Try.func42, Try.ntmps42
    go_wp2
    go_ret
    exact ⟨rfl, rfl⟩
def itC (ts : List ByteArray) : Int := if 4096 < ts.length then 2 else if itB ts = true then 0 else 1
theorem code41 (v : Value) (xs : List ByteArray) (w : World) (hv : strsV w v xs) (hn : xs.length ≤ 2097152) :
    Calls Try.prog 41 #[v, fn33] w fun e w' => e = .returned (.int .i64 (itC xs)) ∧ w' = w := by
  have K := hide (long34 v xs w hv hn)
  have K2 := hide (list42 v xs w hv hn)
  obtain ⟨A, cap, rfl, _⟩ := hv
  go_enter Try.func41, Try.ntmps41
  go_wp2_with fail
  refine (unhide K).mono ?_
  rintro e w' ⟨rfl, hw'⟩
  have hw2 := hw'.symm
  subst hw2
  clear K
  by_cases h : 4096 < xs.length
  · have HE : Hid (itC xs = 2) := hide (by unfold itC; rw [if_pos h])
    rw [decide_eq_true h]
    clear h hn K2
    go_wp2
    go_ret
    exact ⟨by rw [unhide HE]; rfl, rfl⟩
  · have HE : Hid (itC xs = if itB xs = true then 0 else 1) := hide (by unfold itC; rw [if_neg h])
    rw [decide_eq_false h]
    clear h hn
    generalize itB xs = bb at *
    cases bb
    all_goals
      go_wp2_with fail
      refine (unhide K2).mono ?_
      rintro e w' ⟨rfl, hw'⟩
      have hw2 := hw'.symm
      subst hw2
      clear K2
      go_wp2
      go_ret
      exact ⟨by rw [unhide HE]; rfl, rfl⟩
theorem items20 (v : Value) (xs : List ByteArray) (w : World) (hv : strsV w v xs) (hn : xs.length ≤ 2097152) :
    Calls Try.prog 20 #[v] w fun e w' => e = .returned (.int .i64 (itC xs)) ∧ w' = w := by
  obtain ⟨A, cap, rfl, hc⟩ := hv
  have HC := hide hc
  have n0 : (0 : Int) ≤ (xs.length : Int) := by omega
  have n1 : (xs.length : Int) ≤ 2097152 := by omega
  clear hc
  by_cases h : 4096 < xs.length
  · have HE : Hid (itC xs = 2) := hide (by unfold itC; rw [if_pos h])
    have q : (4096 : Int) < (xs.length : Int) := by omega
    clear h hn HC
    go_enter Try.func20, Try.ntmps20
    go_wp2
    go_ret
    exact ⟨by rw [unhide HE]; rfl, rfl⟩
  by_cases h2 : 64 < xs.length
  · have HE : Hid (itC xs = 1) := hide (by unfold itC itB; rw [if_neg h, decide_eq_false (by omega)]; rfl)
    have q : (64 : Int) < (xs.length : Int) := by omega
    have q2 : (xs.length : Int) ≤ 4096 := by omega
    clear h h2 hn HC n1
    go_enter Try.func20, Try.ntmps20
    go_wp2
    go_ret
    exact ⟨by rw [unhide HE]; rfl, rfl⟩
  have HD : Hid (itC xs = if xs.all isI = true then 0 else 1) := hide (by unfold itC itB; rw [if_neg h, decide_eq_true (by omega), Bool.true_and])
  have q2 : (xs.length : Int) ≤ 64 := by omega
  clear h h2 hn n1
  go_enter Try.func20, Try.ntmps20
  go_wp2
  go_loopw [3] (fun i wr => ∃ j : Nat, j ≤ xs.length ∧ i = .int .i64 j ∧ (∀ i, i < j → isI (xs.getD i noS) = true) ∧ wr = w) (fun i _ => xs.length - (intOf i).toNat)
  case atStart => exact ⟨0, by omega, rfl, fun k hk => absurd hk (Nat.not_lt_zero k), rfl⟩
  case round =>
    obtain ⟨j, hj, rfl, hg, hwr⟩ := hrel
    subst hwr
    by_cases hlt : j < xs.length
    · obtain ⟨b, off, hA, hbb, hcell⟩ := unhide HC (by omega)
      subst hA
      have q1 : (j : Int) < (xs.length : Int) := by omega
      have q0 : (0 : Int) ≤ (j : Int) := by omega
      have p0 := hcell j hlt
      have HJ := hide hlt
      have HG := hide hg
      clear hcell hlt hj hbb hg
      generalize hx : xs.getD j noS = x at *
      by_cases h8 : x.size ≤ 400
      · have HX : Hid (isI (xs.getD j noS) = true) := hide (by rw [hx]; exact decide_eq_true h8)
        have h9 : (x.size : Int) ≤ 400 := by omega
        clear hx h8
        go_wp2
        go_roundw
        case rel => exact ⟨j + 1, unhide HJ, by go_num, fun k hk => by rcases Nat.lt_succ_iff_lt_or_eq.1 hk with h | h; exact unhide HG k h; rw [h]; exact unhide HX, by first | rfl | trivial⟩
        case measure => have := unhide HJ; simp [intOf]; omega
      · have HE : Hid (itC xs = 1) := hide (by rw [unhide HD, all_no j (unhide HJ) (by rw [hx]; exact decide_eq_false h8)]; rfl)
        have h9 : (400 : Int) < (x.size : Int) := by omega
        clear hx h8
        go_wp2
        go_ret
        exact ⟨by rw [unhide HE]; rfl, rfl⟩
    · obtain rfl : j = xs.length := by omega
      have HE : Hid (itC xs = 0) := hide (by rw [unhide HD, all_yes hg]; rfl)
      clear hg hlt
      go_wp2
      go_ret
      exact ⟨by rw [unhide HE]; rfl, rfl⟩
theorem items36 (v : Value) (xs : List ByteArray) (w : World) (hv : strsV w v xs) (hn : xs.length ≤ 2097152) :
    Calls Try.prog 36 #[v] w fun e w' => e = .returned (.bool (itB xs)) ∧ w' = w := by
  have K := hide (list42 v xs w hv hn)
  obtain ⟨A, cap, rfl, _⟩ := hv
  clear hn
  generalize itB xs = bb at *
  go_enter Try.func36, Try.ntmps36
  go_wp2_with fail
  refine (unhide K).mono ?_
  rintro e w' ⟨rfl, hw'⟩
  have hw2 := hw'.symm
  subst hw2
  clear K
  go_wp2
  go_ret
  exact ⟨rfl, rfl⟩
theorem items32 (v : Value) (xs : List ByteArray) (w : World) (hv : strsV w v xs) (hn : xs.length ≤ 2097152) :
    Calls Try.prog 32 #[v] w fun e w' => e = .returned (.int .i64 (itC xs)) ∧ w' = w := by
  have K := hide (code41 v xs w hv hn)
  obtain ⟨A, cap, rfl, _⟩ := hv
  clear hn
  generalize itC xs = bb at *
  go_enter Try.func32, Try.ntmps32
  go_wp2_with fail
  refine (unhide K).mono ?_
  rintro e w' ⟨rfl, hw'⟩
  have hw2 := hw'.symm
  subst hw2
  clear K
  go_wp2
  go_ret
  exact ⟨rfl, rfl⟩
end Go.Proofs.Ytecgfkfifocbaaa
