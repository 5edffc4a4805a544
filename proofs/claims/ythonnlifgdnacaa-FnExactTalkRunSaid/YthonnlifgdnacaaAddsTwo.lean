/- More of worlds with blocks behind them: two layers; draws. -/
import Derived.Test.YthonnlifgdnacaaAdds
namespace Go.Proofs.Ythonnlifgdnacaa
open Go.RowKit
@[go_sem] theorem adds_drew (W : World) (os : Array Obj) (d : Nat) : adds W.drew os d = adds W os d := rfl
theorem adds_none (W : World) : adds W #[] W.drawn = W := by simp [adds]
@[go_sem] theorem cell_adds_alloc_adds (Y : World) (os os2 : Array Obj) (d d2 n i : Nat) (o : Obj) (h : n < Y.heap.size) : (adds ((adds Y os d).alloc o) os2 d2).cell? ⟨n, i, none⟩ = Y.cell? ⟨n, i, none⟩ := by
  rw [adds_alloc_adds, cell_adds _ _ _ _ _ h]
@[go_sem] theorem frozen_adds_alloc_adds (Y : World) (os os2 : Array Obj) (d d2 n i : Nat) (o : Obj) (h : n < Y.heap.size) : (adds ((adds Y os d).alloc o) os2 d2).frozen? ⟨n, i, none⟩ = Y.frozen? ⟨n, i, none⟩ := by
  rw [adds_alloc_adds, frozen_adds _ _ _ _ _ h]
@[go_sem] theorem setCell_adds_alloc_adds (Y : World) (os os2 : Array Obj) (d d2 n i : Nat) (v : Value) (o : Obj) (h : n < Y.heap.size) : (adds ((adds Y os d).alloc o) os2 d2).setCell ⟨n, i, none⟩ v = adds ((adds (Y.setCell ⟨n, i, none⟩ v) os d).alloc o) os2 d2 := by
  rw [adds_alloc_adds, setCell_adds _ _ _ _ _ _ h, adds_alloc_adds]
/-- how many blocks there are behind a block and what follows it: whatever lies in them -/
def allocSize (G : World) (os : Array Obj) : Nat := G.heap.size + 1 + os.size
@[go_sem] theorem size_adds_alloc (G : World) (o : Obj) (os : Array Obj) (d : Nat) : (adds (G.alloc o) os d).heap.size = allocSize G os := by
  rw [size_adds, allocSize, World.size_alloc]
@[go_sem] theorem lt_allocSize (G : World) (os : Array Obj) (n : Nat) (h : n ≤ G.heap.size) : (n < allocSize G os) = True := by
  unfold allocSize; simp; omega
@[go_sem] theorem le_allocSize (G : World) (os : Array Obj) (n : Nat) (h : n ≤ G.heap.size) : (n ≤ allocSize G os) = True := by
  unfold allocSize; simp; omega
theorem alloc_drew (W : World) (o : Obj) : W.drew.alloc o = (W.alloc o).drew := rfl
end Go.Proofs.Ythonnlifgdnacaa
