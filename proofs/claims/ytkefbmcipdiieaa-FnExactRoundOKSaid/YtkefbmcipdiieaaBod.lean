/- Lists of bodies: the first that is too long. -/
import Derived.Test.YtkefbmcipdiieaaStr
namespace Go.Proofs.Ytkefbmcipdiieaa
open Go.RowKit
set_option maxHeartbeats 4000000
set_option maxRecDepth 20000
/-- a key's length -/
def isK (k : ByteArray) : Bool := decide (k.size = 32)
theorem drop_atS {ts : List ByteArray} {j : Nat} (h : j < ts.length) : ts.drop j = ts.getD j noS :: ts.drop (j + 1) := by
  rw [List.getD_eq_getElem?_getD, List.getElem?_eq_getElem h, Option.getD_some]
  exact List.drop_eq_getElem_cons h
theorem all_at {ks : List ByteArray} {P : ByteArray → Bool} (h : ks.all P = true) (j : Nat) (hj : j < ks.length) : P (ks.getD j noS) = true := by
  rw [List.getD_eq_getElem?_getD, List.getElem?_eq_getElem hj]
  exact List.all_eq_true.1 h _ (List.getElem_mem hj)
theorem all_no {ks : List ByteArray} {P : ByteArray → Bool} (j : Nat) (hj : j < ks.length) (h : P (ks.getD j noS) = false) : ks.all P = false := by
  rw [List.all_eq_false]
  refine ⟨ks.getD j noS, ?_, by rw [h]; decide⟩
  rw [List.getD_eq_getElem?_getD, List.getElem?_eq_getElem hj]
  exact List.getElem_mem hj
theorem all_yes {ks : List ByteArray} {P : ByteArray → Bool} (h : ∀ j, j < ks.length → P (ks.getD j noS) = true) : ks.all P = true := by
  rw [List.all_eq_true]
  intro x hx
  obtain ⟨j, hj, rfl⟩ := List.mem_iff_getElem.1 hx
  have := h j hj
  rwa [List.getD_eq_getElem?_getD, List.getElem?_eq_getElem hj] at this
/-- the place of the first one that is not so -/
def badP (P : ByteArray → Bool) : List ByteArray → Int → Int
  | [], _ => -1
  | x :: xs, k => if P x then badP P xs (k + 1) else k
theorem badP_all (P : ByteArray → Bool) : ∀ (xs : List ByteArray) (k : Int), 0 ≤ k → (badP P xs k = -1 ∧ xs.all P = true) ∨ (k ≤ badP P xs k ∧ xs.all P = false)
  | [], _, _ => .inl ⟨rfl, rfl⟩
  | x :: xs, k, h => by
    rw [badP, List.all_cons]
    cases hx : P x
    · right; exact ⟨Int.le_refl _, rfl⟩
    · rw [if_pos rfl, Bool.true_and]
      rcases badP_all P xs (k + 1) (by omega) with ⟨a, b⟩ | ⟨a, b⟩
      · exact .inl ⟨a, b⟩
      · exact .inr ⟨by omega, b⟩
theorem no53 (s : ByteArray) (w : World) : Calls Try.prog 16 #[.string s] w fun e w' => e = .returned (.bool (!isK s)) ∧ w' = w := by
  go_enter Try.func16, Try.ntmps16
  go_wp2
  go_ret
  exact ⟨ret_bool (by unfold isK; rw [Bool.eq_iff_iff]; simp; try omega), rfl⟩
/-- a body that is short enough -/
def isB (k : ByteArray) : Bool := decide (k.size ≤ 20)
theorem no25 (s : ByteArray) (w : World) : Calls Try.prog 25 #[.string s] w fun e w' => e = .returned (.bool (!isB s)) ∧ w' = w := by
  go_enter Try.func25, Try.ntmps25
  go_wp2
  go_ret
  exact ⟨ret_bool (by unfold isB; rw [Bool.eq_iff_iff]; simp; try omega), rfl⟩
abbrev fn25 : Value := .func (.func 25) #[] #[]
theorem idx25 (v : Value) (xs : List ByteArray) (w : World) (hv : strsV w v xs) (hn : xs.length ≤ 2097152) :
    Calls Try.prog 26 #[v, fn25] w fun e w' => e = .returned (.int .i64 (badP isB xs 0)) ∧ w' = w := by
  obtain ⟨A, cap, rfl, hc⟩ := hv
  have HC := hide hc
  have n0 : (0 : Int) ≤ (xs.length : Int) := by omega
  have n1 : (xs.length : Int) ≤ 2097152 := by omega
  clear hc
  go_enter Try.func26, Try.ntmps26
  go_wp2
  go_loopw [8] (fun i wr => ∃ j : Nat, j ≤ xs.length ∧ i = .int .i64 j ∧ badP isB (xs.drop j) (j : Int) = badP isB xs 0 ∧ wr = w) (fun i _ => xs.length - (intOf i).toNat)
  case atStart => exact ⟨0, by omega, rfl, rfl, rfl⟩
  case round =>
    obtain ⟨j, hj, rfl, hu, rfl⟩ := hrel
    have HU := hide hu
    clear hu
    by_cases hlt : j < xs.length
    · obtain ⟨b, off, hA, _, hcell⟩ := unhide HC (by omega)
      subst hA
      have q1 : (j : Int) < (xs.length : Int) := by omega
      have q0 : (0 : Int) ≤ (j : Int) := by omega
      have p0 := hcell j hlt
      have HJ := hide hlt
      have HD := hide (drop_atS hlt)
      clear hcell hlt hj
      generalize xs.getD j noS = x at *
      have K := hide (fun W => no25 x W)
      generalize hb : isB x = bb at *
      cases bb
      · have HE : Hid (badP isB xs 0 = (j : Int)) := hide (by rw [← unhide HU, unhide HD, badP, hb]; rfl)
        clear HU HD hb
        go_wp2_with fail
        refine (unhide K _).mono ?_
        rintro e w' ⟨rfl, hw'⟩
        have hw2 := hw'.symm
        subst hw2
        clear K
        go_wp2
        go_ret
        exact ⟨by rw [unhide HE]; rfl, rfl⟩
      · have HE : Hid (badP isB (xs.drop (j + 1)) ((j : Int) + 1) = badP isB xs 0) := hide (by rw [← unhide HU, unhide HD, badP, hb]; rfl)
        clear HU HD hb
        go_wp2_with fail
        refine (unhide K _).mono ?_
        rintro e w' ⟨rfl, hw'⟩
        have hw2 := hw'.symm
        subst hw2
        clear K
        go_wp2
        go_roundw
        case rel => exact ⟨j + 1, unhide HJ, by go_num, unhide HE, by first | rfl | trivial⟩
        case measure => have := unhide HJ; simp [intOf]; omega
    · obtain rfl : j = xs.length := by omega
      have HE : Hid (badP isB xs 0 = -1) := hide (by rw [← unhide HU, List.drop_length]; rfl)
      clear hlt HU
      go_wp2
      go_ret
      exact ⟨by rw [unhide HE]; rfl, rfl⟩
theorem has25 (v : Value) (xs : List ByteArray) (w : World) (hv : strsV w v xs) (hn : xs.length ≤ 2097152) :
    Calls Try.prog 24 #[v, fn25] w fun e w' => e = .returned (.bool (!xs.all isB)) ∧ w' = w := by
  have K := hide (fun W (hW : strsV W v xs) => idx25 v xs W hW hn)
  have HV := hide hv
  obtain ⟨A, cap, rfl, _⟩ := hv
  have hb := badP_all isB xs 0 (Int.le_refl _)
  generalize badP isB xs 0 = k at *
  clear hn
  go_enter Try.func24, Try.ntmps24
  go_wp2_with fail
  refine (unhide K _ (unhide HV)).mono ?_
  rintro e w' ⟨rfl, hw'⟩
  have hw2 := hw'.symm
  subst hw2
  clear K HV
  rcases hb with ⟨h1, h2⟩ | ⟨h1, h2⟩
  · have HE := hide h2
    subst h1
    clear h2
    go_wp2
    go_ret
    exact ⟨ret_bool (by rw [unhide HE]; rfl), rfl⟩
  · have HE := hide h2
    clear h2
    go_wp2
    go_ret
    exact ⟨ret_bool (by rw [unhide HE]; simp; try omega), rfl⟩
end Go.Proofs.Ytkefbmcipdiieaa
