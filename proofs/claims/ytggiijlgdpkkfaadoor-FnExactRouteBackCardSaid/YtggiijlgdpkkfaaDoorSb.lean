/- StreamBlock on both sides, and the law. -/
import Derived.Test.YtggiijlgdpkkfaaDoorStart
import Derived.Test.YtggiijlgdpkkfaaDoorKeys
namespace Go.Proofs.YtggiijlgdpkkfaaDoor
open Go.RowKit
set_option maxHeartbeats 4000000
set_option maxRecDepth 20000
/-- the bytes of a block -/
def blkN (key nonce : ByteArray) (c : Int) : List Int := outN (rndC (startW key nonce c) 10) (startW key nonce c) 16
theorem blkN_len (key nonce : ByteArray) (c : Int) : (blkN key nonce c).length = 64 := outN_len _ _ _
/-- what StreamBlock answers -/
def sbV (key nonce : ByteArray) (c : Int) : Value :=
  if scode key nonce false ≠ 0 then .tuple #[.string ⟨#[]⟩, .int .i64 (scode key nonce false)] else if 0 ≤ c ∧ c ≤ 4294967295 then .tuple #[.string (strOfNums (blkN key nonce c)), .int .i64 0] else .tuple #[.string ⟨#[]⟩, .int .i64 4]
theorem scode_ok {key nonce : ByteArray} {lb : Bool} (h : scode key nonce lb = 0) : key.size = 32 ∧ nonce.size = 12 ∧ lb = false := by
  unfold scode at h
  split at h
  · omega
  · split at h
    · omega
    · rename_i h1 h2
      refine ⟨by omega, by omega, ?_⟩
      cases lb
      · rfl
      · simp at h1
theorem scode_cases (key nonce : ByteArray) (lb : Bool) : scode key nonce lb = 0 ∨ scode key nonce lb = 1 ∨ scode key nonce lb = 2 := by
  unfold scode; split
  · omega
  · split <;> omega
theorem start_blk (key nonce : ByteArray) (c : Int) (w : World) (t : TypeId) (fr : Nat × Nat) (hq : w.heap[0]? = some (.cells qArr t fr)) :
    Calls Tryd.prog 37 #[.agg ((startW key nonce 0).map wV).toArray, .int .u32 (c % 4294967296)] w fun e w' => e = .returned (.agg ((blkN key nonce c).map (Value.int .u8)).toArray) ∧ Below w.heap.size w w' := by
  have h := blk28 (startW key nonce 0) (startW_len key nonce 0) (BitVec.ofInt 32 c) w t fr hq
  rw [start_set, wV, ← w_of' c] at h
  exact h
theorem conv_new (B : List Int) (hl : B.length = 64) (w : World) (t : TypeId) (W : World) (hW : W.heap[w.heap.size]? = some (.cells (B.map (Value.int .u8)).toArray t (0, 0))) :
    (convert 44 9 (.slice (some ⟨w.heap.size, 0, none⟩) 64 64)).run Tryd.prog W = .ok (.string (strOfNums B)) W := by
  refine run_convert_bytes_arg _ 44 5 Tryd.underlying44 Tryd.underlying5 w.heap.size 0 64 64 B hl ?_ 9 Tryd.underlying9
  intro i hi
  rw [Nat.zero_add, Go.cell_of_row _ _ _ _ _ _ hW, List.getElem?_toArray, List.getElem?_map, List.getD_eq_getElem?_getD, List.getElem?_eq_getElem (by omega)]
  rfl
theorem sbV_form (key nonce : ByteArray) (c : Int) : ∃ t n, sbV key nonce c = .tuple #[.string t, .int .i64 n] := by
  unfold sbV; split
  · exact ⟨_, _, rfl⟩
  · split <;> exact ⟨_, _, rfl⟩
end Go.Proofs.YtggiijlgdpkkfaaDoor
