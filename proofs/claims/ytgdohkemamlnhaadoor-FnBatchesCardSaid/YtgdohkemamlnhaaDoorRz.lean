/- What the specification reads of bytes as a message, and that the program reads the same. -/
import Derived.Test.YtgdohkemamlnhaaDoorRx
namespace Go.Proofs.YtgdohkemamlnhaaDoor
open Go.RowKit
set_option maxHeartbeats 4000000
set_option maxRecDepth 20000
/-- bytes from a place on, so many of them -/
def cut (xs : List Int) (k n : Nat) : List Int := (xs.drop k).take n
theorem cut_len (xs : List Int) (k n : Nat) (h : k + n ≤ xs.length) : (cut xs k n).length = n := by simp [cut]; omega
theorem cut_isB {xs : List Int} (h : isB xs) (k n : Nat) : isB (cut xs k n) := (h.drop k).take n
theorem rowAt.cut {W : World} {g off : Nat} {xs : List Int} (h : rowAt W g off xs) (k n : Nat) : rowAt W g (off + k) (cut xs k n) := (h.drop k).take n
abbrev rR (xs : List Int) : Int := ofL (cut xs 0 4)
abbrev rS (xs : List Int) : Int := ofL (cut xs 4 2)
abbrev rA (xs : List Int) : Int := ofL (cut xs 6 2)
abbrev rD (xs : List Int) : ByteArray := strOfNums (cut xs 8 8)
abbrev rT (xs : List Int) (k : Nat) : ByteArray := strOfNums (cut xs 17 k)
/-- whether bytes are those of a right message -/
def rokM (xs : List Int) (k : Nat) : Bool := okM (rR xs) (rS xs) (rA xs) (rD xs) (rT xs k) && decide (mB (rR xs) (rS xs) (rA xs) (rD xs) (rT xs k) = xs)
theorem step_none {st : RS} {p : ByteArray} {n : Nat} (h : (stepN st p n).2 = none) : st.2 = none ∧ n ≤ st.1.length ∧ stepN st p n = (st.1.drop n, none) := by
  obtain ⟨xs, f⟩ := st
  cases f with
  | some x => simp [stepN] at h
  | none =>
    by_cases hn : n ≤ xs.length
    · exact ⟨rfl, hn, by simp [stepN, hn]⟩
    · simp [stepN, hn] at h
theorem step_go {st : RS} {xs : List Int} (h : st = (xs, none)) (p : ByteArray) {n : Nat} (hn : n ≤ xs.length) : stepN st p n = (xs.drop n, none) ∧ takeN st n = xs.take n := by
  subst h
  simp [stepN, takeN, hn]
theorem step_go' {st : RS} {xs : List Int} {k : Nat} (h : st = (xs.drop k, none)) (p : ByteArray) {n m : Nat} (hn : k + n ≤ xs.length) (hm : m = k + n) : stepN st p n = (xs.drop m, none) ∧ takeN st n = cut xs k n := by
  obtain ⟨h1, h2⟩ := step_go h p (n := n) (by rw [List.length_drop]; omega)
  subst hm
  rw [h1, h2, List.drop_drop]
  exact ⟨rfl, rfl⟩
theorem ofL_one (xs : List Int) (k : Nat) (h : k < xs.length) : ofL (cut xs k 1) = xs.getD k 0 := by
  have : cut xs k 1 = [xs.getD k 0] := by
    unfold cut
    rw [List.drop_eq_getElem_cons h, List.getD_eq_getElem?_getD, List.getElem?_eq_getElem h]
    rfl
  rw [this]
  simp [ofL]
/-- where there are bytes enough, all is read -/
theorem thru (xs : List Int) (h0 : f0 xs = none) (k : Nat) (hl : 17 + k ≤ xs.length) (hk : xs.getD 16 0 = (k : Int)) :
    (s6 (st0 xs)).2 = none ∧ mR xs = rR xs ∧ mS xs = rS xs ∧ mA xs = rA xs ∧ mD xs = rD xs ∧ mT xs = rT xs k := by
  have e0 : st0 xs = (xs.drop 0, none) := by simp [st0, h0]
  obtain ⟨e1, t0⟩ := step_go' e0 ⟨#[114, 111, 117, 110, 100]⟩ (n := 4) (m := 4) (by omega) rfl
  obtain ⟨e2, t1⟩ := step_go' e1 ⟨#[115, 101, 113]⟩ (n := 2) (m := 6) (by omega) rfl
  obtain ⟨e3, t2⟩ := step_go' e2 ⟨#[97, 99, 107]⟩ (n := 2) (m := 8) (by omega) rfl
  obtain ⟨e4, t3⟩ := step_go' e3 ⟨#[100, 114, 111, 112]⟩ (n := 8) (m := 16) (by omega) rfl
  obtain ⟨e5, t4⟩ := step_go' e4 ⟨#[108, 101, 110, 103, 116, 104, 32, 111, 102, 32, 98, 111, 100, 121]⟩ (n := 1) (m := 17) (by omega) rfl
  have ek : kOf (st0 xs) = k := by unfold kOf; rw [t4, ofL_one xs 16 (by omega), hk]; omega
  obtain ⟨e6, t5⟩ := step_go' e5 ⟨#[98, 111, 100, 121]⟩ (n := k) (m := 17 + k) (by omega) rfl
  refine ⟨?_, congrArg ofL t0, congrArg ofL t1, congrArg ofL t2, congrArg strOfNums t3, ?_⟩
  · show (stepN (s5 (st0 xs)) _ (kOf (st0 xs))).2 = none
    rw [ek, e6]
  · show strOfNums (takeN (s5 (st0 xs)) (kOf (st0 xs))) = _
    rw [ek, t5]
/-- what is read without a fault had bytes enough -/
theorem thru_inv (xs : List Int) (hB : isB xs) (h : (s6 (st0 xs)).2 = none) : f0 xs = none ∧ ∃ k : Nat, 17 + k ≤ xs.length ∧ xs.getD 16 0 = (k : Int) := by
  obtain ⟨h5, l5, _⟩ := step_none h
  obtain ⟨h4, l4, e5⟩ := step_none h5
  obtain ⟨h3, l3, e4⟩ := step_none h4
  obtain ⟨h2, l2, e3⟩ := step_none h3
  obtain ⟨h1, l1, e2⟩ := step_none h2
  obtain ⟨h0, l0, e1⟩ := step_none h1
  have f : f0 xs = none := h0
  have n1 : (s1 (st0 xs)).1.length = xs.length - 4 := by rw [show s1 (st0 xs) = _ from e1]; simp
  have n2 : (s2 (st0 xs)).1.length = xs.length - 6 := by rw [show s2 (st0 xs) = _ from e2]; simp only [List.length_drop, n1]; omega
  have n3 : (s3 (st0 xs)).1.length = xs.length - 8 := by rw [show s3 (st0 xs) = _ from e3]; simp only [List.length_drop, n2]; omega
  have n4 : (s4 (st0 xs)).1.length = xs.length - 16 := by rw [show s4 (st0 xs) = _ from e4]; simp only [List.length_drop, n3]; omega
  have n5 : (s5 (st0 xs)).1.length = xs.length - 17 := by rw [show s5 (st0 xs) = _ from e5]; simp only [List.length_drop, n4]; omega
  have m0 : 4 ≤ xs.length := l0
  have m1 : 2 ≤ xs.length - 4 := n1 ▸ l1
  have m2 : 2 ≤ xs.length - 6 := n2 ▸ l2
  have m3 : 8 ≤ xs.length - 8 := n3 ▸ l3
  have m4 : 1 ≤ xs.length - 16 := n4 ▸ l4
  have m5 : kOf (st0 xs) ≤ xs.length - 17 := n5 ▸ l5
  obtain ⟨b0, b1⟩ := hB.at 16
  refine ⟨f, (xs.getD 16 0).toNat, ?_, by omega⟩
  have e0 : st0 xs = (xs.drop 0, none) := by simp [st0, f]
  obtain ⟨e1, _⟩ := step_go' e0 ⟨#[114, 111, 117, 110, 100]⟩ (n := 4) (m := 4) (by omega) rfl
  obtain ⟨e2, _⟩ := step_go' e1 ⟨#[115, 101, 113]⟩ (n := 2) (m := 6) (by omega) rfl
  obtain ⟨e3, _⟩ := step_go' e2 ⟨#[97, 99, 107]⟩ (n := 2) (m := 8) (by omega) rfl
  obtain ⟨e4, _⟩ := step_go' e3 ⟨#[100, 114, 111, 112]⟩ (n := 8) (m := 16) (by omega) rfl
  obtain ⟨_, t4⟩ := step_go' e4 ⟨#[108, 101, 110, 103, 116, 104, 32, 111, 102, 32, 98, 111, 100, 121]⟩ (n := 1) (m := 17) (by omega) rfl
  have ek : kOf (st0 xs) = (xs.getD 16 0).toNat := by unfold kOf; rw [t4, ofL_one xs 16 (by omega)]
  omega
/-- no fault, or one of the code 3 -/
def c3 (f : Option (ByteArray × Int)) : Prop := f = none ∨ ∃ p, f = some (p, 3)
theorem c3_step {st : RS} (h : c3 st.2) (p : ByteArray) (n : Nat) : c3 (stepN st p n).2 := by
  obtain ⟨xs, f⟩ := st
  cases f with
  | some x => exact h
  | none =>
    by_cases hn : n ≤ xs.length
    · simp only [stepN, if_pos hn]; exact .inl rfl
    · simp only [stepN, if_neg hn]; exact .inr ⟨_, rfl⟩
theorem c3_s6 (xs : List Int) (h : f0 xs = none) : c3 (s6 (st0 xs)).2 := c3_step (c3_step (c3_step (c3_step (c3_step (c3_step (.inl h) _ _) _ _) _ _) _ _) _ _) _ _
theorem c3_F7 (xs : List Int) (h : f0 xs = none) : c3 (F7 xs) := by
  unfold F7
  split
  · rcases c3_s6 xs h with e | ⟨p, e⟩
    · rw [e]; exact .inr ⟨_, rfl⟩
    · rw [e]; exact .inr ⟨_, rfl⟩
  · exact c3_s6 xs h
theorem step_some {st : RS} {x : ByteArray × Int} (h : st.2 = some x) (p : ByteArray) (n : Nat) : (stepN st p n).2 = some x := by
  obtain ⟨xs, f⟩ := st
  cases f with
  | some y => exact h
  | none => simp at h
theorem F7_long (xs : List Int) (h : 65536 < xs.length) : F7 xs = some (⟨#[98, 121, 116, 101, 115]⟩, 2) := by
  have e : (s6 (st0 xs)).2 = some (⟨#[98, 121, 116, 101, 115]⟩, 2) := step_some (step_some (step_some (step_some (step_some (step_some (show (st0 xs).2 = _ by simp [f0, h]) _ _) _ _) _ _) _ _) _ _) _ _
  unfold F7
  rw [e]
  split
  · rfl
  · rfl
theorem F7_none {xs : List Int} (hB : isB xs) (h : F7 xs = none) : ∃ k : Nat, xs.length = 64 ∧ xs.getD 16 0 = (k : Int) ∧ k ≤ 40 ∧ rokM xs k = true ∧ msgV (mR xs) (mS xs) (mA xs) (mD xs) (mT xs) = msgV (rR xs) (rS xs) (rA xs) (rD xs) (rT xs k) := by
  unfold F7 at h
  by_cases hc : mbC (mR xs) (mS xs) (mA xs) (mD xs) (mT xs) ≠ 0 ∨ mbL (mR xs) (mS xs) (mA xs) (mD xs) (mT xs) ≠ xs
  · rw [if_pos hc] at h
    cases hs : (s6 (st0 xs)).2 with
    | none => rw [hs] at h; simp [orF] at h
    | some x => rw [hs] at h; simp [orF] at h
  · rw [if_neg hc] at h
    have hc0 : mbC (mR xs) (mS xs) (mA xs) (mD xs) (mT xs) = 0 := Classical.byContradiction fun g => hc (.inl g)
    have hL : mbL (mR xs) (mS xs) (mA xs) (mD xs) (mT xs) = xs := Classical.byContradiction fun g => hc (.inr g)
    have ho : okM (mR xs) (mS xs) (mA xs) (mD xs) (mT xs) = true := by
      unfold mbC at hc0
      by_cases g : okM (mR xs) (mS xs) (mA xs) (mD xs) (mT xs) = true
      · exact g
      · rw [if_neg g] at hc0; simp at hc0
    unfold mbL at hL
    rw [if_pos ho] at hL
    obtain ⟨f, k, hl, hk⟩ := thru_inv xs hB h
    obtain ⟨_, a1, a2, a3, a4, a5⟩ := thru xs f k hl hk
    rw [a1, a2, a3, a4, a5] at ho hL ⊢
    obtain ⟨d8, b40⟩ := okM_sizes ho
    have hlen : xs.length = 64 := by rw [← hL]; exact mB_len _ _ _ _ _ d8 b40
    have k40 : k ≤ 40 := by
      rw [strOfNums_size, cut_len xs 17 k (by omega)] at b40
      exact b40
    exact ⟨k, hlen, hk, k40, by unfold rokM; rw [ho, hL]; simp, rfl⟩
theorem F7_right {xs : List Int} {k : Nat} (hl : xs.length = 64) (hk : xs.getD 16 0 = (k : Int)) (k40 : k ≤ 40) (h : rokM xs k = true) : F7 xs = none ∧ msgV (mR xs) (mS xs) (mA xs) (mD xs) (mT xs) = msgV (rR xs) (rS xs) (rA xs) (rD xs) (rT xs k) := by
  have f : f0 xs = none := by unfold f0; rw [if_neg (by omega)]
  obtain ⟨a0, a1, a2, a3, a4, a5⟩ := thru xs f k (by omega) hk
  unfold rokM at h
  rw [Bool.and_eq_true, decide_eq_true_eq] at h
  obtain ⟨h1, h2⟩ := h
  have hc0 : mbC (rR xs) (rS xs) (rA xs) (rD xs) (rT xs k) = 0 := by unfold mbC; rw [if_pos h1]
  have hL : mbL (rR xs) (rS xs) (rA xs) (rD xs) (rT xs k) = xs := by unfold mbL; rw [if_pos h1]; exact h2
  refine ⟨?_, by rw [a1, a2, a3, a4, a5]⟩
  unfold F7
  rw [a1, a2, a3, a4, a5, if_neg (by rw [hc0, hL]; simp), a0]
/-- what the specification's ReadMessage hands back -/
def spM (xs : List Int) : Value × Int :=
  if 65536 < xs.length then (zeroM, 2) else
  if xs.length = 64 ∧ xs.getD 16 0 ≤ 40 ∧ rokM xs (xs.getD 16 0).toNat = true then (msgV (rR xs) (rS xs) (rA xs) (rD xs) (rT xs (xs.getD 16 0).toNat), 0) else (zeroM, 3)
theorem agree {xs : List Int} (hB : isB xs) : outM (F7 xs) (msgV (mR xs) (mS xs) (mA xs) (mD xs) (mT xs)) = (spM xs).1 ∧ outC (F7 xs) = (spM xs).2 := by
  unfold spM
  by_cases h1 : 65536 < xs.length
  · rw [if_pos h1, F7_long xs h1]; exact ⟨rfl, rfl⟩
  · rw [if_neg h1]
    have f : f0 xs = none := by unfold f0; rw [if_neg h1]
    obtain ⟨b0, b1⟩ := hB.at 16
    by_cases h2 : xs.length = 64 ∧ xs.getD 16 0 ≤ 40 ∧ rokM xs (xs.getD 16 0).toNat = true
    · rw [if_pos h2]
      obtain ⟨g1, g2⟩ := F7_right h2.1 (k := (xs.getD 16 0).toNat) (by omega) (by omega) h2.2.2
      rw [g1, g2]; exact ⟨rfl, rfl⟩
    · rw [if_neg h2]
      rcases c3_F7 xs f with e | ⟨p, e⟩
      · obtain ⟨k, g1, g2, g3, g4, _⟩ := F7_none hB e
        refine absurd ⟨g1, by omega, ?_⟩ h2
        rw [g2]; exact g4
      · rw [e]; exact ⟨rfl, rfl⟩
end Go.Proofs.YtgdohkemamlnhaaDoor
