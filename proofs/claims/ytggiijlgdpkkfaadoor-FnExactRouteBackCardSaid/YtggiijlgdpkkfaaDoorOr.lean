/- OpenReply on both sides. -/
import Derived.Test.YtggiijlgdpkkfaaDoorWr
import Derived.Test.YtggiijlgdpkkfaaDoorStr
import Derived.Lib.SliceRun
namespace Go.Proofs.YtggiijlgdpkkfaaDoor
open Go.RowKit
set_option maxHeartbeats 4000000
set_option maxRecDepth 20000
/-- what all keys put on -/
def opL (ks : List ByteArray) (xs : List Int) : List Int := ks.foldl (fun o k => xorL k nonB 0 o) xs
theorem opL_len (ks : List ByteArray) (xs : List Int) : (opL ks xs).length = xs.length := by
  induction ks generalizing xs with
  | nil => rfl
  | cons k ks ih => exact (ih (xorL k nonB 0 xs)).trans (xorL_len _ _ _ _)
theorem opL_step (ks : List ByteArray) (xs : List Int) (j : Nat) (h : j < ks.length) : opL (ks.take (j + 1)) xs = xorL (ks.getD j noS) nonB 0 (opL (ks.take j) xs) := by
  rw [← List.take_append_getElem h, opL, List.foldl_append, List.getD_eq_getElem?_getD, List.getElem?_eq_getElem h]
  rfl
/-- a key's length -/
def isK (k : ByteArray) : Bool := decide (k.size = 32)
def orC (ks : List ByteArray) (n : Nat) : Int := if 65536 < n ∨ 4096 < ks.length then 2 else if 4 < ks.length then 4 else if ks.all isK then 0 else 1
def orL (ks : List ByteArray) (xs : List Int) : List Int := if orC ks xs.length = 0 then opL ks xs else []
theorem or_nil {ks : List ByteArray} {xs : List Int} {e : Int} (h : orC ks xs.length = e) (he : e ≠ 0) : orL ks xs = [] := by
  unfold orL; rw [if_neg (by rw [h]; exact he)]
theorem orL_len (ks : List ByteArray) (xs : List Int) : (orL ks xs).length ≤ xs.length := by
  unfold orL; split
  · rw [opL_len]; exact Nat.le_refl _
  · simp
theorem all_at {ks : List ByteArray} (h : ks.all isK = true) (j : Nat) (hj : j < ks.length) : (ks.getD j noS).size = 32 := by
  rw [List.getD_eq_getElem?_getD, List.getElem?_eq_getElem hj]
  exact of_decide_eq_true (List.all_eq_true.1 h _ (List.getElem_mem hj))
theorem drop_atS {ts : List ByteArray} {j : Nat} (h : j < ts.length) : ts.drop j = ts.getD j noS :: ts.drop (j + 1) := by
  rw [List.getD_eq_getElem?_getD, List.getElem?_eq_getElem h, Option.getD_some]
  exact List.drop_eq_getElem_cons h
theorem long21 (v : Value) (ts : List ByteArray) (w : World) (hv : strsV w v ts) (hn : ts.length ≤ 2097152) :
    Calls Tryd.prog 26 #[v] w fun e w' => e = .returned (.bool (decide (4096 < ts.length))) ∧ w' = w := by
  obtain ⟨A, cap, rfl, hc⟩ := hv
  clear hc
  have n0 : (0 : Int) ≤ (ts.length : Int) := by omega
  have n1 : (ts.length : Int) ≤ 2097152 := by omega
  go_enter Tryd.func26, Tryd.ntmps26
  go_wp2
  go_ret
  exact ⟨ret_bool (by rw [Bool.eq_iff_iff]; simp; try omega), rfl⟩
theorem no23 (s : ByteArray) (w : World) : Calls Tryd.prog 34 #[.string s] w fun e w' => e = .returned (.bool (!isK s)) ∧ w' = w := by
  go_enter Tryd.func34, Tryd.ntmps34
  go_wp2
  go_ret
  exact ⟨ret_bool (by unfold isK; rw [Bool.eq_iff_iff]; simp; try omega), rfl⟩
def badAt : List ByteArray → Int → Int
  | [], _ => -1
  | x :: xs, k => if isK x then badAt xs (k + 1) else k
theorem bad_all : ∀ (xs : List ByteArray) (k : Int), 0 ≤ k → (badAt xs k = -1 ∧ xs.all isK = true) ∨ (k ≤ badAt xs k ∧ xs.all isK = false)
  | [], _, _ => .inl ⟨rfl, rfl⟩
  | x :: xs, k, h => by
    rw [badAt, List.all_cons]
    cases hx : isK x
    · right; exact ⟨Int.le_refl _, rfl⟩
    · rw [if_pos rfl, Bool.true_and]
      rcases bad_all xs (k + 1) (by omega) with ⟨a, b⟩ | ⟨a, b⟩
      · exact .inl ⟨a, b⟩
      · exact .inr ⟨by omega, b⟩
abbrev fn23 : Value := .func (.func 34) #[] #[]
theorem idx30 (v : Value) (xs : List ByteArray) (w : World) (hv : strsV w v xs) (hn : xs.length ≤ 2097152) :
    Calls Tryd.prog 43 #[v, fn23] w fun e w' => e = .returned (.int .i64 (badAt xs 0)) ∧ w' = w := by
  obtain ⟨A, cap, rfl, hc⟩ := hv
  have HC := hide hc
  have n0 : (0 : Int) ≤ (xs.length : Int) := by omega
  have n1 : (xs.length : Int) ≤ 2097152 := by omega
  clear hc
  go_enter Tryd.func43, Tryd.ntmps43
  go_wp2
  go_loopw [8] (fun i wr => ∃ j : Nat, j ≤ xs.length ∧ i = .int .i64 j ∧ badAt (xs.drop j) (j : Int) = badAt xs 0 ∧ wr = w) (fun i _ => xs.length - (intOf i).toNat)
  case atStart => exact ⟨0, by omega, rfl, rfl, rfl⟩
  case round =>
    obtain ⟨j, hj, rfl, hu, rfl⟩ := hrel
    have HU := hide hu
    clear hu
    by_cases hlt : j < xs.length
    · obtain ⟨b, off, hA, _, hcell⟩ := unhide HC (by omega)
      subst hA
      have q1 : (j : Int) < (xs.length : Int) := by omega
      have q0 : (0 : Int) ≤ (j : Int) := by omega
      have p0 := hcell j hlt
      have HJ := hide hlt
      have HD := hide (drop_atS hlt)
      clear hcell hlt hj
      generalize xs.getD j noS = x at *
      have K := hide (fun W => no23 x W)
      generalize hb : isK x = bb at *
      cases bb
      · have HE : Hid (badAt xs 0 = (j : Int)) := hide (by rw [← unhide HU, unhide HD, badAt, hb]; rfl)
        clear HU HD hb
        go_wp2_with fail
        refine (unhide K _).mono ?_
        rintro e w' ⟨rfl, rfl⟩
        clear K
        go_wp2
        go_ret
        exact ⟨by rw [unhide HE]; rfl, rfl⟩
      · have HE : Hid (badAt (xs.drop (j + 1)) ((j : Int) + 1) = badAt xs 0) := hide (by rw [← unhide HU, unhide HD, badAt, hb]; rfl)
        clear HU HD hb
        go_wp2_with fail
        refine (unhide K _).mono ?_
        rintro e w' ⟨rfl, rfl⟩
        clear K
        go_wp2
        go_roundw
        case rel => exact ⟨j + 1, unhide HJ, by go_num, unhide HE, by first | rfl | trivial⟩
        case measure => have := unhide HJ; simp [intOf]; omega
    · obtain rfl : j = xs.length := by omega
      have HE : Hid (badAt xs 0 = -1) := hide (by rw [← unhide HU, List.drop_length]; rfl)
      clear hlt HU
      go_wp2
      go_ret
      exact ⟨by rw [unhide HE]; rfl, rfl⟩
theorem has22 (v : Value) (xs : List ByteArray) (w : World) (hv : strsV w v xs) (hn : xs.length ≤ 2097152) :
    Calls Tryd.prog 40 #[v, fn23] w fun e w' => e = .returned (.bool (!xs.all isK)) ∧ w' = w := by
  have K := hide (fun W (hW : strsV W v xs) => idx30 v xs W hW hn)
  have HV := hide hv
  obtain ⟨A, cap, rfl, _⟩ := hv
  have hb := bad_all xs 0 (Int.le_refl _)
  generalize badAt xs 0 = k at *
  clear hn
  go_enter Tryd.func40, Tryd.ntmps40
  go_wp2_with fail
  refine (unhide K _ (unhide HV)).mono ?_
  rintro e w' ⟨rfl, rfl⟩
  clear K HV
  rcases hb with ⟨h1, h2⟩ | ⟨h1, h2⟩
  · have HE := hide h2
    subst h1
    clear h2
    go_wp2
    go_ret
    exact ⟨ret_bool (by rw [unhide HE]; rfl), rfl⟩
  · have HE := hide h2
    clear h2
    go_wp2
    go_ret
    exact ⟨ret_bool (by rw [unhide HE]; simp; try omega), rfl⟩
end Go.Proofs.YtggiijlgdpkkfaaDoor
