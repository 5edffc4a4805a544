/- A world in which one block holds a list of numbers, and then whatever else. -/
import Derived.WalkKit
import Derived.Handy
import Derived.Test.YthonnlifgdnacaaAddsTwo
namespace Go.Proofs.Ythonnlifgdnacaa
open Go.RowKit
def rowObj (e : TypeId) (kd : IntKind) (xs : List Int) (rest : List Value) : Obj := .cells (xs.map (Value.int kd) ++ rest).toArray e (0, 0)
def rowL (w : World) (b : Nat) (e : TypeId) (kd : IntKind) (xs : List Int) (rest : List Value) : World := { w with heap := w.heap.setIfInBounds b (rowObj e kd xs rest) }
section
variable (w : World) (b : Nat) (e : TypeId) (kd : IntKind) (xs : List Int) (rest : List Value)
theorem get_row (hb : b < w.heap.size) : (rowL w b e kd xs rest).heap[b]? = some (rowObj e kd xs rest) := by
  simp [rowL, hb]
theorem get_row_other (n : Nat) (h : n ≠ b) : (rowL w b e kd xs rest).heap[n]? = w.heap[n]? := by
  simp only [rowL]
  rw [Array.getElem?_setIfInBounds_ne (by omega)]
@[go_sem] theorem size_row : (rowL w b e kd xs rest).heap.size = w.heap.size := by simp [rowL]
@[go_sem] theorem cell_row (i : Nat) (hi : i < xs.length) (hb : b < w.heap.size) : (rowL w b e kd xs rest).cell? ⟨b, i, none⟩ = some (.int kd (xs.getD i 0)) := by
  unfold World.cell?
  rw [show (⟨b, i, none⟩ : Addr).block = b from rfl, get_row w b e kd xs rest hb]
  simp [rowObj, hi, List.getElem?_append_left, List.getD]
@[go_sem] theorem frozen_row (i : Nat) (hb : b < w.heap.size) : (rowL w b e kd xs rest).frozen? ⟨b, i, none⟩ = false := by
  unfold World.frozen?
  rw [show (⟨b, i, none⟩ : Addr).block = b from rfl, get_row w b e kd xs rest hb]
  simp [rowObj]
@[go_sem] theorem set_row (i : Nat) (v : Int) (hi : i < xs.length) (hb : b < w.heap.size) : (rowL w b e kd xs rest).setCell ⟨b, i, none⟩ (.int kd v) = rowL w b e kd (xs.set i v) rest := by
  unfold World.setCell rowL
  simp only [World.mk.injEq, and_self, and_true]
  apply Array.ext_getElem?
  intro k
  rw [Array.getElem?_modify, Array.getElem?_setIfInBounds, Array.getElem?_setIfInBounds]
  by_cases hk : b = k
  · subst hk
    simp only [if_true, hb, rowObj, Option.map_some]
    congr 1
    simp [List.set_append_left, hi]
  · rw [if_neg hk, if_neg hk, if_neg hk]
@[go_sem] theorem drew_row : (rowL w b e kd xs rest).drew = rowL w.drew b e kd xs rest := rfl
theorem row_same (hb : w.heap[b]? = some (rowObj e kd xs rest)) : rowL w b e kd xs rest = w := by
  obtain ⟨hp, tp, dr, o, out⟩ := w
  simp only [rowL, World.mk.injEq, and_self, and_true] at *
  apply Array.ext_getElem?
  intro k
  rw [Array.getElem?_setIfInBounds]
  by_cases hk : b = k
  · subst hk
    rw [hb]
    have := (Array.getElem?_eq_some_iff.1 hb).1
    simp [this]
  · rw [if_neg hk]
theorem row_row (ys : List Int) (r2 : List Value) : rowL (rowL w b e kd xs rest) b e kd ys r2 = rowL w b e kd ys r2 := by
  simp [rowL]
theorem below_row {B : Nat} {a : World} (h : Below B a w) (hB : B ≤ b) : Below B a (rowL w b e kd xs rest) :=
  ⟨h.os, h.tape, h.output, by rw [size_row]; exact h.size, fun k hk => by rw [get_row_other _ _ _ _ _ _ _ (by omega)]; exact h.block k hk⟩
end
end Go.Proofs.Ythonnlifgdnacaa
