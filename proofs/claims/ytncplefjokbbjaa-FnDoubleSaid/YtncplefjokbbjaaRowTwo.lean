/- Blocks of five limbs that are written into, in a world that is a letter. -/
import Derived.Test.YtncplefjokbbjaaRow
import Derived.Test.YtncplefjokbbjaaArr
namespace Go.Proofs.Ytncplefjokbbjaa
open Go.RowKit
section
variable (w : World) (b : Nat) (e : TypeId) (kd : IntKind) (xs : List Int) (rest : List Value) (n i : Nat)
@[go_sem] theorem cell_rowO (h : n ≠ b) : (rowL w b e kd xs rest).cell? ⟨n, i, none⟩ = w.cell? ⟨n, i, none⟩ := by
  unfold World.cell?
  rw [show (⟨n, i, none⟩ : Addr).block = n from rfl, get_row_other _ _ _ _ _ _ _ h]
@[go_sem] theorem frozen_rowO (h : n ≠ b) : (rowL w b e kd xs rest).frozen? ⟨n, i, none⟩ = w.frozen? ⟨n, i, none⟩ := by
  unfold World.frozen?
  rw [show (⟨n, i, none⟩ : Addr).block = n from rfl, get_row_other _ _ _ _ _ _ _ h]
@[go_sem] theorem set_rowO (h : n ≠ b) (v : Value) : (rowL w b e kd xs rest).setCell ⟨n, i, none⟩ v = rowL (w.setCell ⟨n, i, none⟩ v) b e kd xs rest := by
  unfold World.setCell rowL
  simp only [World.mk.injEq, and_self, and_true]
  apply Array.ext_getElem?
  intro k
  rw [Array.getElem?_modify, Array.getElem?_setIfInBounds, Array.getElem?_setIfInBounds, Array.getElem?_modify, Array.size_modify]
  by_cases hk : b = k
  · subst hk
    rw [if_neg h]
    simp
  · rw [if_neg hk, if_neg hk]
end
section
variable {W : World} {g g' : Nat} {a0 a1 a2 a3 a4 b0 b1 b2 b3 b4 : Int}
theorem A5.row (h : A5 W g a0 a1 a2 a3 a4) : W = rowL W g 42 .u64 [a0, a1, a2, a3, a4] [] := (row_same W g 42 .u64 [a0, a1, a2, a3, a4] [] h).symm
theorem A5.put (h : g < W.heap.size) : A5 (rowL W g 42 .u64 [a0, a1, a2, a3, a4] []) g a0 a1 a2 a3 a4 := get_row W g 42 .u64 [a0, a1, a2, a3, a4] [] h
theorem A5.other {xs : List Int} (h : A5 W g a0 a1 a2 a3 a4) (hne : g ≠ g') : A5 (rowL W g' 42 .u64 xs []) g a0 a1 a2 a3 a4 := (get_row_other W g' 42 .u64 xs [] g hne).trans h
/-- two blocks, laid open -/
theorem A5.two (h : A5 W g a0 a1 a2 a3 a4) (h' : A5 W g' b0 b1 b2 b3 b4) : W = rowL (rowL W g 42 .u64 [a0, a1, a2, a3, a4] []) g' 42 .u64 [b0, b1, b2, b3, b4] [] := by
  rw [← h.row, ← h'.row]
end
end Go.Proofs.Ytncplefjokbbjaa
