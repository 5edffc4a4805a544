/- Five limbs in a block of their own, wherever it lies: what a local number of the curve's functions is. -/
import Derived.Test.YtncplefjokbbjaaAddsTwo
import Derived.Test.YtncplefjokbbjaaImplA
namespace Go.Proofs.Ytncplefjokbbjaa
open Go.RowKit
abbrev O5 (a0 a1 a2 a3 a4 : Int) : Obj := .cells #[.int .u64 a0, .int .u64 a1, .int .u64 a2, .int .u64 a3, .int .u64 a4] 42
def A5 (W : World) (g : Nat) (a0 a1 a2 a3 a4 : Int) : Prop := W.heap[g]? = some (O5 a0 a1 a2 a3 a4)
section
variable {W : World} {g : Nat} {a0 a1 a2 a3 a4 : Int}
theorem A5.lt (h : A5 W g a0 a1 a2 a3 a4) : g < W.heap.size := (Array.getElem?_eq_some_iff.1 h).1
theorem A5.cells (h : A5 W g a0 a1 a2 a3 a4) : W.cell? ⟨g, 0, none⟩ = some (.int .u64 a0) ∧ W.cell? ⟨g, 1, none⟩ = some (.int .u64 a1) ∧ W.cell? ⟨g, 2, none⟩ = some (.int .u64 a2) ∧ W.cell? ⟨g, 3, none⟩ = some (.int .u64 a3) ∧ W.cell? ⟨g, 4, none⟩ = some (.int .u64 a4) := by
  unfold A5 at h
  unfold World.cell?
  simp only [h]
  exact ⟨rfl, rfl, rfl, rfl, rfl⟩
theorem A5.thawed (h : A5 W g a0 a1 a2 a3 a4) : W.frozen? ⟨g, 0, none⟩ = false ∧ W.frozen? ⟨g, 1, none⟩ = false ∧ W.frozen? ⟨g, 2, none⟩ = false ∧ W.frozen? ⟨g, 3, none⟩ = false ∧ W.frozen? ⟨g, 4, none⟩ = false := by
  unfold A5 at h
  unfold World.frozen?
  simp only [h]
  exact ⟨rfl, rfl, rfl, rfl, rfl⟩
theorem A5.kept {W' : World} (h : A5 W g a0 a1 a2 a3 a4) (hb : Below W.heap.size W W') : A5 W' g a0 a1 a2 a3 a4 := (hb.block g h.lt).trans h
theorem A5.alloc (h : A5 W g a0 a1 a2 a3 a4) {o : Obj} : A5 (W.alloc o) g a0 a1 a2 a3 a4 := by
  unfold A5 at *
  rw [heap_alloc_old _ _ (Array.getElem?_eq_some_iff.1 h).1]; exact h
theorem A5.behind (h : A5 W g a0 a1 a2 a3 a4) {os : Array Obj} {d : Nat} : A5 (adds W os d) g a0 a1 a2 a3 a4 := (get_adds W os d g h.lt).trans h
theorem A5.drew (h : A5 W g a0 a1 a2 a3 a4) : A5 W.drew g a0 a1 a2 a3 a4 := h
theorem A5.new (e : g = W.heap.size) : A5 (W.alloc (O5 a0 a1 a2 a3 a4)) g a0 a1 a2 a3 a4 := by
  subst e; exact heap_alloc_new W _
end
theorem Below.alloc' {B : Nat} {a X : World} (h : Below B a X) {o : Obj} (hB : B ≤ X.heap.size) : Below B a (X.alloc o) := h.alloc hB o
theorem Below.adds' {B : Nat} {a X : World} (h : Below B a X) {os : Array Obj} {d : Nat} (hB : B ≤ X.heap.size) : Below B a (adds X os d) := below_adds h hB os d
theorem Below.drew' {B : Nat} {a X : World} (h : Below B a X) : Below B a X.drew := ⟨h.os, h.tape, h.output, h.size, h.block⟩
theorem cellDrew (W : World) (p : Addr) : W.drew.cell? p = W.cell? p := rfl
theorem sizeDrew (W : World) : W.drew.heap.size = W.heap.size := rfl
theorem cell_old (W : World) (o : Obj) (n i : Nat) (h : n < W.heap.size) : (W.alloc o).cell? ⟨n, i, none⟩ = W.cell? ⟨n, i, none⟩ := by
  unfold World.cell?
  rw [show (⟨n, i, none⟩ : Addr).block = n from rfl, heap_alloc_old _ _ h]
theorem cellN0 (W : World) (a0 a1 a2 a3 a4 : Int) : (W.alloc (O5 a0 a1 a2 a3 a4)).cell? ⟨W.heap.size, 0, none⟩ = some (.int .u64 a0) := (A5.new (W := W) (a0 := a0) (a1 := a1) (a2 := a2) (a3 := a3) (a4 := a4) rfl).cells.1
theorem cellN1 (W : World) (a0 a1 a2 a3 a4 : Int) : (W.alloc (O5 a0 a1 a2 a3 a4)).cell? ⟨W.heap.size, 1, none⟩ = some (.int .u64 a1) := (A5.new (W := W) (a0 := a0) (a1 := a1) (a2 := a2) (a3 := a3) (a4 := a4) rfl).cells.2.1
theorem cellN2 (W : World) (a0 a1 a2 a3 a4 : Int) : (W.alloc (O5 a0 a1 a2 a3 a4)).cell? ⟨W.heap.size, 2, none⟩ = some (.int .u64 a2) := (A5.new (W := W) (a0 := a0) (a1 := a1) (a2 := a2) (a3 := a3) (a4 := a4) rfl).cells.2.2.1
theorem cellN3 (W : World) (a0 a1 a2 a3 a4 : Int) : (W.alloc (O5 a0 a1 a2 a3 a4)).cell? ⟨W.heap.size, 3, none⟩ = some (.int .u64 a3) := (A5.new (W := W) (a0 := a0) (a1 := a1) (a2 := a2) (a3 := a3) (a4 := a4) rfl).cells.2.2.2.1
theorem cellN4 (W : World) (a0 a1 a2 a3 a4 : Int) : (W.alloc (O5 a0 a1 a2 a3 a4)).cell? ⟨W.heap.size, 4, none⟩ = some (.int .u64 a4) := (A5.new (W := W) (a0 := a0) (a1 := a1) (a2 := a2) (a3 := a3) (a4 := a4) rfl).cells.2.2.2.2
theorem A5.far {X Y : World} {os : Array Obj} {d d' g : Nat} {a0 a1 a2 a3 a4 : Int} (h : A5 (adds X os d) g a0 a1 a2 a3 a4) (hg : X.heap.size ≤ g) (hs : Y.heap.size = X.heap.size) : A5 (adds Y os d') g a0 a1 a2 a3 a4 := by
  unfold A5 adds at *
  simp only at *
  rw [Array.getElem?_append_right (by omega)] at *
  rw [hs]; exact h
theorem cell_adds_app (X : World) (os os' : Array Obj) (d n i : Nat) (h : n < X.heap.size + os.size) : (adds X (os ++ os') d).cell? ⟨n, i, none⟩ = (adds X os d).cell? ⟨n, i, none⟩ := by
  rw [← adds_adds X os os' d d, cell_adds _ _ _ _ _ (by rw [size_adds]; exact h)]
end Go.Proofs.Ytncplefjokbbjaa
