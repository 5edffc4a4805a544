/- The laws' own helpers over bytes: copies, comparisons, marks. -/
import Derived.Test.YtggiijlgdpkkfaaDoorXored
namespace Go.Proofs.YtggiijlgdpkkfaaDoor
open Go.RowKit
set_option maxHeartbeats 4000000
set_option maxRecDepth 20000
def marks (n : Nat) : List Int := (List.range n).map fun i : Nat => ((1 : Int) + (i : Int)) % 256
theorem marks_len (n : Nat) : (marks n).length = n := by simp [marks]
theorem marks_at (n i : Nat) (h : i < n) : (marks n).getD i 0 = ((1 : Int) + (i : Int)) % 256 := by
  rw [List.getD_eq_getElem?_getD, marks, List.getElem?_map, List.getElem?_range h]; rfl
theorem marks_isB (n : Nat) : isB (marks n) := by
  intro x hx
  obtain ⟨i, _, rfl⟩ := List.mem_map.1 hx
  omega
/-- nothing but v's own block has turned -/
structure Touch (v : Value) (w w' : World) : Prop where
  os : w'.os = w.os
  tape : w'.tape = w.tape
  output : w'.output = w.output
  size : w'.heap.size = w.heap.size
  block : ∀ k, v.ownBlock ≠ some k → w'.heap[k]? = w.heap[k]?
end Go.Proofs.YtggiijlgdpkkfaaDoor
