/- Texts as bytes. -/
import Derived.Test.YtggiijlgdpkkfaaDoorBas
import Derived.Laws.IdiomStrings
namespace Go.Proofs.YtggiijlgdpkkfaaDoor
open Go.RowKit
set_option maxHeartbeats 4000000
set_option maxRecDepth 20000
/-- a text's bytes as numbers -/
def txt (t : ByteArray) : List Int := t.data.toList.map fun b => (b.toNat : Int)
theorem txt_len (t : ByteArray) : (txt t).length = t.size := by rw [txt, List.length_map, Array.length_toList]; rfl
theorem txt_isB (t : ByteArray) : isB (txt t) := by
  intro x hx
  obtain ⟨b, _, rfl⟩ := List.mem_map.1 hx
  have := UInt8.toNat_lt b
  omega
/-- the world behind '[]byte(t)' -/
def cvW (w : World) (t : ByteArray) : World := w.drew.alloc (.cells (bytesRow t (grownCap w t.size 0 5)) 5 ((bytesRow t (grownCap w t.size 0 5)).size, (bytesRow t (grownCap w t.size 0 5)).size + 1))
theorem run_cv (w : World) (t : ByteArray) : (convert 9 44 (.string t)).run Tryd.prog w = .ok (.slice (some ⟨w.heap.size, 0, none⟩) t.size (grownCap w t.size 0 5)) (cvW w t) :=
  run_bytes_of_string w 9 44 5 t Tryd.underlying9 Tryd.underlying44 Tryd.underlying5
theorem bl_cv {w X : World} {t : ByteArray} (h : Below w.heap.size w X) : Below w.heap.size w (cvW X t) := (bl_dr h).alloc h.size _
theorem by_cv (w : World) (t : ByteArray) : bytesV (cvW w t) (.slice (some ⟨w.heap.size, 0, none⟩) t.size (grownCap w t.size 0 5)) (txt t) := by
  refine ⟨_, _, by rw [txt_len], txt_isB t, fun _ => ⟨w.heap.size, 0, rfl, by simp [cvW], fun i hi => ?_⟩⟩
  rw [txt_len] at hi
  have hi' : i < t.data.size := hi
  have hh : (cvW w t).heap[w.heap.size]? = some (.cells (bytesRow t (grownCap w t.size 0 5)) 5 ((bytesRow t (grownCap w t.size 0 5)).size, (bytesRow t (grownCap w t.size 0 5)).size + 1)) := heap_at w.drew _ _ rfl
  rw [Go.cell_of_row _ _ _ _ _ _ hh, Nat.zero_add, bytesRow_at t _ i hi']
  unfold txt
  rw [List.getD_eq_getElem?_getD, List.getElem?_map, List.getElem?_eq_getElem (by simpa using hi')]
  rfl
end Go.Proofs.YtggiijlgdpkkfaaDoor
