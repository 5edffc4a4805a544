/- A world with blocks behind it that nobody looks at: what a call leaves, seen by its caller. -/
import Derived.WalkKit
import Derived.Handy
namespace Go.Proofs.Ythonnlifgdnacaa
open Go.RowKit
def adds (W : World) (os : Array Obj) (d : Nat) : World := { W with heap := W.heap ++ os, drawn := d }
theorem get_adds (W : World) (os : Array Obj) (d n : Nat) (h : n < W.heap.size) : (adds W os d).heap[n]? = W.heap[n]? := by
  show (W.heap ++ os)[n]? = _
  rw [Array.getElem?_append_left h]
@[go_sem] theorem cell_adds (W : World) (os : Array Obj) (d n i : Nat) (h : n < W.heap.size) : (adds W os d).cell? ⟨n, i, none⟩ = W.cell? ⟨n, i, none⟩ := by
  unfold World.cell?; rw [show (⟨n, i, none⟩ : Addr).block = n from rfl, get_adds W os d n h]
@[go_sem] theorem frozen_adds (W : World) (os : Array Obj) (d n i : Nat) (h : n < W.heap.size) : (adds W os d).frozen? ⟨n, i, none⟩ = W.frozen? ⟨n, i, none⟩ := by
  unfold World.frozen?; rw [show (⟨n, i, none⟩ : Addr).block = n from rfl, get_adds W os d n h]
@[go_sem] theorem drew_adds (W : World) (os : Array Obj) (d : Nat) : (adds W os d).drew = adds W os (d + 1) := rfl
@[go_sem] theorem adds_adds (W : World) (os os' : Array Obj) (d d' : Nat) : adds (adds W os d) os' d' = adds W (os ++ os') d' := by
  simp [adds, Array.append_assoc]
theorem size_adds (W : World) (os : Array Obj) (d : Nat) : (adds W os d).heap.size = W.heap.size + os.size := by simp [adds]
@[go_sem] theorem lt_adds (W : World) (os : Array Obj) (d n : Nat) (h : n < W.heap.size) : (n < (adds W os d).heap.size) = True := by
  rw [size_adds]; simp; omega
@[go_sem] theorem le_adds (W : World) (os : Array Obj) (d n : Nat) (h : n ≤ W.heap.size) : (n ≤ (adds W os d).heap.size) = True := by
  rw [size_adds]; simp; omega
@[go_sem] theorem setCell_adds (W : World) (os : Array Obj) (d n i : Nat) (v : Value) (h : n < W.heap.size) : (adds W os d).setCell ⟨n, i, none⟩ v = adds (W.setCell ⟨n, i, none⟩ v) os d := by
  unfold World.setCell adds
  simp only [World.mk.injEq, and_self, and_true]
  apply Array.ext_getElem?
  intro k
  rw [Array.getElem?_modify]
  by_cases hk : k < W.heap.size
  · rw [Array.getElem?_append_left hk, Array.getElem?_append_left (by simpa using hk), Array.getElem?_modify]
  · rw [Array.getElem?_append_right (by omega), Array.getElem?_append_right (by simp; omega), if_neg (by omega)]
    simp
theorem alloc_adds (W : World) (os : Array Obj) (d : Nat) (o : Obj) : (adds W os d).alloc o = adds W (os.push o) d := by
  simp only [adds, World.alloc, World.mk.injEq, and_self, and_true]
  exact Array.append_push.symm ▸ rfl
@[go_sem] theorem cell_alloc_adds (W : World) (os : Array Obj) (d n i : Nat) (o : Obj) (h : n < W.heap.size) : ((adds W os d).alloc o).cell? ⟨n, i, none⟩ = W.cell? ⟨n, i, none⟩ := by
  rw [alloc_adds, cell_adds _ _ _ _ _ h]
@[go_sem] theorem frozen_alloc_adds (W : World) (os : Array Obj) (d n i : Nat) (o : Obj) (h : n < W.heap.size) : ((adds W os d).alloc o).frozen? ⟨n, i, none⟩ = W.frozen? ⟨n, i, none⟩ := by
  rw [alloc_adds, frozen_adds _ _ _ _ _ h]
@[go_sem] theorem setCell_alloc_adds (W : World) (os : Array Obj) (d n i : Nat) (v : Value) (o : Obj) (h : n < W.heap.size) : ((adds W os d).alloc o).setCell ⟨n, i, none⟩ v = (adds (W.setCell ⟨n, i, none⟩ v) os d).alloc o := by
  rw [alloc_adds, setCell_adds _ _ _ _ _ _ h, alloc_adds]
theorem adds_alloc_adds (W : World) (os os2 : Array Obj) (d d2 : Nat) (o : Obj) : adds ((adds W os d).alloc o) os2 d2 = adds W (os.push o ++ os2) d2 := by
  rw [alloc_adds, adds_adds]
theorem below_adds {B : Nat} {a X : World} (h : Below B a X) (hB : B ≤ X.heap.size) (os : Array Obj) (d : Nat) : Below B a (adds X os d) :=
  ⟨h.os, h.tape, h.output, by rw [size_adds]; have := h.size; omega, fun k hk => by rw [get_adds X os d k (by omega)]; exact h.block k hk⟩
theorem to_adds {W w1 : World} (h : Below W.heap.size W w1) : ∃ os d, w1 = adds W os d := by
  refine ⟨w1.heap.extract W.heap.size w1.heap.size, w1.drawn, ?_⟩
  obtain ⟨h1, h2, h3, h4, h5⟩ := h
  obtain ⟨hp, tp, dr, o, out⟩ := w1
  simp only [adds, World.mk.injEq] at *
  refine ⟨?_, h2, trivial, h1, h3⟩
  apply Array.ext_getElem?
  intro k
  by_cases hk : k < W.heap.size
  · rw [Array.getElem?_append_left hk]; exact h5 k hk
  · rw [Array.getElem?_append_right (by omega), Array.getElem?_extract]
    by_cases hk2 : k < hp.size
    · rw [if_pos (by omega)]; congr 1; omega
    · rw [if_neg (by omega), Array.getElem?_eq_none (by omega)]
end Go.Proofs.Ythonnlifgdnacaa
