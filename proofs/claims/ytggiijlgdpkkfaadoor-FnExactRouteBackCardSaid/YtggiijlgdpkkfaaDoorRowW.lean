/- A world in which one block holds a list of words, and then whatever else. -/
import Derived.Test.YtggiijlgdpkkfaaDoorChaM
import Derived.Handy
namespace Go.Proofs.YtggiijlgdpkkfaaDoor
open Go.RowKit
abbrev wV (x : W32) : Value := .int .u32 (wi x)
def rowW (w : World) (b : Nat) (e : TypeId) (xs : List W32) (rest : List Value) : World := { w with heap := w.heap.setIfInBounds b (.cells (xs.map wV ++ rest).toArray e (0, 0)) }
section
variable (w : World) (b : Nat) (e : TypeId) (xs : List W32) (rest : List Value)
theorem get_rowW (hb : b < w.heap.size) : (rowW w b e xs rest).heap[b]? = some (.cells (xs.map wV ++ rest).toArray e (0, 0)) := by
  simp [rowW, hb]
theorem get_rowW_other (n : Nat) (h : n ≠ b) : (rowW w b e xs rest).heap[n]? = w.heap[n]? := by
  simp only [rowW]
  rw [Array.getElem?_setIfInBounds_ne (by omega)]
@[go_sem] theorem size_rowW : (rowW w b e xs rest).heap.size = w.heap.size := by simp [rowW]
@[go_sem] theorem cell_rowW (i : Nat) (hi : i < xs.length) (hb : b < w.heap.size) : (rowW w b e xs rest).cell? ⟨b, i, none⟩ = some (.int .u32 (wi (xs.getD i 0))) := by
  unfold World.cell?
  rw [show (⟨b, i, none⟩ : Addr).block = b from rfl, get_rowW w b e xs rest hb]
  simp [hi, List.getElem?_append_left, List.getD]
@[go_sem] theorem cell_rowW_other (n i : Nat) (h : n ≠ b) : (rowW w b e xs rest).cell? ⟨n, i, none⟩ = w.cell? ⟨n, i, none⟩ := by
  unfold World.cell?
  rw [show (⟨n, i, none⟩ : Addr).block = n from rfl, get_rowW_other w b e xs rest n h]
@[go_sem] theorem frozen_rowW (i : Nat) (hb : b < w.heap.size) : (rowW w b e xs rest).frozen? ⟨b, i, none⟩ = false := by
  unfold World.frozen?
  rw [show (⟨b, i, none⟩ : Addr).block = b from rfl, get_rowW w b e xs rest hb]
  simp
@[go_sem] theorem set_rowW (i : Nat) (v : W32) (hi : i < xs.length) (hb : b < w.heap.size) : (rowW w b e xs rest).setCell ⟨b, i, none⟩ (.int .u32 (wi v)) = rowW w b e (xs.set i v) rest := by
  unfold World.setCell rowW
  simp only [World.mk.injEq, and_self, and_true]
  apply Array.ext_getElem?
  intro k
  rw [Array.getElem?_modify, Array.getElem?_setIfInBounds, Array.getElem?_setIfInBounds]
  by_cases hk : b = k
  · subst hk
    simp only [if_true, hb, Option.map_some]
    congr 1
    simp [List.set_append_left, hi]
  · rw [if_neg hk, if_neg hk, if_neg hk]
@[go_sem] theorem drew_rowW : (rowW w b e xs rest).drew = rowW w.drew b e xs rest := rfl
theorem rowW_same (hb : w.heap[b]? = some (.cells (xs.map wV ++ rest).toArray e (0, 0))) : rowW w b e xs rest = w := by
  obtain ⟨hp, tp, dr, o, out⟩ := w
  simp only [rowW, World.mk.injEq, and_self, and_true] at *
  apply Array.ext_getElem?
  intro k
  rw [Array.getElem?_setIfInBounds]
  by_cases hk : b = k
  · subst hk
    rw [hb]
    have := (Array.getElem?_eq_some_iff.1 hb).1
    simp [this]
  · rw [if_neg hk]
theorem below_rowW {B : Nat} {a : World} (h : Below B a w) (hB : B ≤ b) : Below B a (rowW w b e xs rest) :=
  ⟨h.os, h.tape, h.output, by rw [size_rowW]; exact h.size, fun k hk => by rw [get_rowW_other _ _ _ _ _ _ (by omega)]; exact h.block k hk⟩
end
end Go.Proofs.YtggiijlgdpkkfaaDoor
