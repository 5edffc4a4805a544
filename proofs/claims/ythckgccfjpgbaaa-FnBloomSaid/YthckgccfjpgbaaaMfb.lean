/- What the law over filters needs of them: adding and merging keep what stands, and set what is asked. -/
import Derived.Test.YthckgccfjpgbaaaLme
import Derived.Test.YthckgccfjpgbaaaApi
import Derived.Test.YthckgccfjpgbaaaAt
namespace Go.Proofs.Ythckgccfjpgbaaa
open Go.RowKit
set_option maxHeartbeats 4000000
set_option maxRecDepth 20000
/-- y has x's form, and every bit of x -/
structure Grow (x y : Blm) : Prop where
  p : y.p = x.p
  w : y.w = x.w
  s : y.s = x.s
  b : ∀ k, x.b.getD k false = true → y.b.getD k false = true
theorem Grow.has {x y : Blm} (h : Grow x y) {t : Int} (ht : hasB x t = true) : hasB y t = true := by
  unfold hasB at *
  rw [List.all_eq_true] at *
  intro i hi
  rw [h.s] at hi
  have := ht i hi
  unfold bt at *
  rw [h.p, h.w, h.s]
  exact h.b _ this
theorem Right.len {x : Blm} (h : Right x) : x.b.length = x.s.length * x.w.toNat := by
  have := h.bits
  have h1 := h.w1
  obtain ⟨M, hM⟩ : ∃ M : Nat, x.w = M := ⟨x.w.toNat, by omega⟩
  rw [hM] at this ⊢
  rw [Int.toNat_natCast, Nat.mul_comm]
  exact_mod_cast this
theorem okX_form {x y : Blm} (hx : okX x = true) (hp : y.p = x.p) (hw : y.w = x.w) (hs : y.s = x.s) (hb : y.b.length = x.s.length * x.w.toNat) : okX y = true := by
  have hr := right_of hx
  have e := hr.len
  unfold okX at *
  rw [hp, hw, hs, hb, ← e]
  exact hx
def zeroX (x : Blm) : Blm := ⟨x.p, x.w, x.s, List.replicate (x.s.length * x.w.toNat) false⟩
theorem new_ok {x : Blm} (h : okX x = true) : newR x.p x.w x.s = (zeroX x, 0) := by
  have hr := right_of h
  unfold okX at h
  simp only [Bool.and_eq_true] at h
  exact newR_ok (by have := hr.s4; omega) h.1.1 h.1.2
theorem zero_ok {x : Blm} (h : okX x = true) : okX (zeroX x) = true := okX_form (x := x) h rfl rfl rfl (by simp [zeroX])
theorem tag_ok {x : Blm} {t : Int} (h : okX x = true) (ht : inP x.p t = true) : tagC x t = 0 := by unfold tagC; rw [h, ht]; rfl
theorem add_ok {x : Blm} {t : Int} (h : okX x = true) : okX (addX x t) = true := okX_form (x := x) h rfl rfl rfl (bitsOf_len _ _ _)
theorem bit_in {x : Blm} (hr : Right x) (t : Int) {i : Nat} (hi : i < x.s.length) : bi x t i < x.w.toNat ∧ i * x.w.toNat + bi x t i < x.s.length * x.w.toNat := by
  have h1 := plc_in (p := x.p) (x.s.getD i noA) t hr.w1
  have h2 : bi x t i < x.w.toNat := by unfold bi; omega
  have h3 : (i + 1) * x.w.toNat ≤ x.s.length * x.w.toNat := Nat.mul_le_mul_right _ hi
  rw [Nat.add_mul] at h3
  exact ⟨h2, by omega⟩
theorem add_has {x : Blm} {t : Int} (h : okX x = true) : hasB (addX x t) t = true := by
  have hr := right_of h
  unfold hasB
  rw [List.all_eq_true]
  intro i hi
  have hi' : i < x.s.length := List.mem_range.1 hi
  obtain ⟨h1, h2⟩ := bit_in hr t hi'
  show (bitsOf x.w.toNat x.s.length (addF x t x.s.length)).getD (i * x.w.toNat + bi x t i) false = true
  rw [bitsOf_at h2]
  obtain ⟨e1, e2⟩ := (place_at (W := x.w.toNat) (i := i) (j := bi x t i) (k := i * x.w.toNat + bi x t i) h1).1 rfl
  rw [← e1, ← e2]
  unfold addF
  simp [hi']
theorem getD_lt {B : List Bool} {k : Nat} (h : B.getD k false = true) : k < B.length := by
  rcases Nat.lt_or_ge k B.length with h1 | h1
  · exact h1
  · rw [List.getD_eq_getElem?_getD, List.getElem?_eq_none h1] at h
    simp at h
theorem add_grow {x : Blm} {t : Int} (h : okX x = true) : Grow x (addX x t) := by
  refine ⟨rfl, rfl, rfl, fun k hk => ?_⟩
  have hr := right_of h
  have hl := getD_lt hk
  rw [hr.len] at hl
  show (bitsOf x.w.toNat x.s.length (addF x t x.s.length)).getD k false = true
  rw [bitsOf_at hl]
  unfold addF
  have hw : 0 < x.w.toNat := by have := hr.w1; omega
  rw [show k / x.w.toNat * x.w.toNat + k % x.w.toNat = k by rw [Nat.mul_comm]; exact Nat.div_add_mod _ _, hk]
  rfl
theorem merge_ok {x y : Blm} (h : okX x = true) : okX (mergeX x y) = true := okX_form (x := x) h rfl rfl rfl (bitsOf_len _ _ _)
theorem merge_grow {x y : Blm} (h : okX x = true) : Grow x (mergeX x y) := by
  refine ⟨rfl, rfl, rfl, fun k hk => ?_⟩
  have hr := right_of h
  have hl := getD_lt hk
  rw [hr.len] at hl
  show (bitsOf x.w.toNat x.s.length (mgF x y x.s.length)).getD k false = true
  rw [merged_at rfl hl, hk]
  rfl
theorem merge_grow2 {x y : Blm} (h2 : okX y = true) (hs : sameX x y) : Grow y (mergeX x y) := by
  refine ⟨hs.1, hs.2.1, hs.2.2, fun k hk => ?_⟩
  have hl := getD_lt hk
  rw [(right_of h2).len, ← hs.2.1, ← hs.2.2] at hl
  show (bitsOf x.w.toNat x.s.length (mgF x y x.s.length)).getD k false = true
  rw [merged_at rfl hl, hk, Bool.or_true]
theorem Right.small {x : Blm} (hr : Right x) : x.s.length ≤ 2097152 ∧ x.b.length ≤ 2097152 := by
  have h1 := hr.s4
  have h2 := hr.w64
  have h3 : x.s.length * x.w.toNat ≤ 4 * 64 := Nat.mul_le_mul h1 (by omega)
  rw [hr.len]
  omega
/-- tags that are right for a filter, and in it -/
def tagsX (y : Blm) (xs : List Int) : Prop := ∀ i, i < xs.length → inP y.p (xs.getD i 0) = true ∧ hasB y (xs.getD i 0) = true
theorem tagsX_nil (y : Blm) : tagsX y [] := fun i h => by simp at h
theorem Grow.tags {x y : Blm} (h : Grow x y) {xs : List Int} (ht : tagsX x xs) : tagsX y xs := fun i hi => ⟨by rw [h.p]; exact (ht i hi).1, h.has (ht i hi).2⟩
theorem tagsX_snoc {y : Blm} {xs : List Int} {t : Int} (h : tagsX y xs) (h1 : inP y.p t = true) (h2 : hasB y t = true) : tagsX y (xs ++ [t]) := by
  intro i hi
  rw [List.getD_eq_getElem?_getD]
  rcases Nat.lt_or_ge i xs.length with hl | hl
  · rw [List.getElem?_append_left hl, ← List.getD_eq_getElem?_getD]; exact h i hl
  · have : i = xs.length := by simp at hi; omega
    subst this
    simpa using ⟨h1, h2⟩
theorem at_one (w : World) (B : Option Addr) (m cbp i N : Nat) (hm : m ≤ 1048576) (hi : i ≤ 1000) (hN : 1 ≤ N) (hN2 : N ≤ 65536) (hB : codeAt w B m) :
    Calls Try.prog 16 #[.slice B m cbp, .int .i64 i, .int .i64 N] w fun e w' => ∃ v : Nat, e = .returned (.int .i64 v) ∧ v < N ∧ Below w.heap.size w w' := by
  rcases Nat.lt_or_ge 1 N with h | h
  · exact at_any w B m cbp i N hm hi h hN2 hB
  · obtain rfl : N = 1 := by omega
    clear hB
    go_enter Try.func16, Try.ntmps16
    go_wp2
    go_ret
    exact ⟨0, rfl, by omega, Below.refl _ _⟩
theorem inP_nat {p : Int} {t : Nat} (h : (t : Int) < p) : inP p (t : Int) = true := by unfold inP; simp; omega
theorem hasR_law {x : Blm} {t : Int} (h : okX x = true) (ht : inP x.p t = true) : hasR x t = (hasB x t, 0) := hasR_ok (tag_ok h ht)
theorem addR_law {x : Blm} {t : Int} (h : okX x = true) (ht : inP x.p t = true) : addR x t = (addX x t, 0) := addR_ok (tag_ok h ht)
end Go.Proofs.Ythckgccfjpgbaaa
