/- strings.Clone: the same text. -/
import Derived.Test.YthonnlifgdnacaaBase
import Derived.Lib.UnsafeStr
import Derived.Lib.BufferWrite
namespace Go.Proofs.Ythonnlifgdnacaa
open Go.RowKit
set_option maxHeartbeats 4000000
set_option maxRecDepth 20000
theorem cells5 : Try.prog.cellsOf 5 = 1 := by kernel_rfl
theorem clone35 (t : ByteArray) (w : World) (h0 : 0 < t.size) (hl : t.size ≤ 2097152) :
    Calls Try.prog 83 #[.string t] w fun e w' => e = .returned (.string t) ∧ Below w.heap.size w w' := by
  obtain ⟨i0, hi0, _, hz1, _⟩ := info_parts info5
  have mk := make_bytes t.size hl w
  obtain ⟨w1, hw1⟩ : ∃ w1, w1 = w.alloc (rowObj 5 .u8 (List.replicate t.size 0) []) := ⟨_, rfl⟩
  have g1 : w1.heap[w.heap.size]? = some (rowObj 5 .u8 (List.replicate t.size 0) []) := by rw [hw1]; exact heap_at _ _ _ rfl
  rw [← hw1] at mk
  have B1 : Below w.heap.size w w1 := by rw [hw1]; exact bl_al (Below.refl _ _)
  have cp := Go.Lib.run_copy_row_string (P := Try.prog) w1 22 9 3 5 w.heap.size 0 t.size t.size t _ 5 Try.underlying22 (by rw [hi0]; exact congrArg some hz1) g1 (Nat.le_refl _) (by simp)
  obtain ⟨w2, hw2⟩ : ∃ w2, w2 = w1.setRow w.heap.size (((List.replicate t.size (0 : Int)).map (Value.int .u8) ++ []).toArray.toList.take 0 ++ Go.Lib.byteCells t.data.toList ++ ((List.replicate t.size (0 : Int)).map (Value.int .u8) ++ []).toArray.toList.drop (0 + t.size)).toArray := ⟨_, rfl⟩
  rw [← hw2] at cp
  have g2 : w2.heap[w.heap.size]? = some (.cells (Go.Lib.byteCells t.data.toList).toArray 5 (0, 0)) := by
    rw [hw2, get_setRow g1]
    simp
  have B2 : Below w.heap.size w w2 := by rw [hw2]; exact below_setRow B1 (Nat.le_refl _)
  have hlen : t.data.toList.length = t.size := by rw [Array.length_toList]; rfl
  have us := Go.Lib.run_unsafeString_row (P := Try.prog) w2 113 3 9 5 Try.underlying113 cells5 w.heap.size t.size (by
      unfold World.shape?
      rw [g2]
      simp [Go.Lib.byteCells, hlen]) t.data.toList (fun e => by rw [e] at hlen; simp at hlen; omega) (by omega) (by omega) (fun j x hx => by
      rw [Addr.add_lit, Nat.zero_add, Go.cell_of_row _ _ _ _ _ _ g2]
      rw [List.getElem?_toArray, Go.Lib.byteCells, List.getElem?_map, hx]
      rfl)
  rw [hlen] at us
  have q0 : ¬ ((t.size : Int) = 0) := by omega
  have q1 : (0 : Int) < (t.size : Int) := by omega
  have HB := hide (Go.Lib.below_freeze (p := ⟨w.heap.size, 0, none⟩) B2 (Nat.le_refl _) t.size)
  generalize w2.freeze ⟨w.heap.size, 0, none⟩ t.size = w3 at *
  clear g1 g2 B1 B2 hw1 hw2 h0 hl hi0 hlen
  go_enter Try.func83, Try.ntmps83
  go_wp2
  go_ret
  exact ⟨rfl, unhide HB⟩
theorem clone26 (t : ByteArray) (w : World) (h0 : 0 < t.size) (hl : t.size ≤ 2097152) :
    Calls Try.prog 55 #[.string t] w fun e w' => e = .returned (.string t) ∧ Below w.heap.size w w' := by
  have h := hide (clone35 t w h0 hl)
  clear h0 hl
  go_enter Try.func55, Try.ntmps55
  go_wp2_with fail
  refine (unhide h).mono ?_
  rintro e w1 ⟨rfl, b1⟩
  go_wp2
  go_ret
  exact ⟨rfl, b1⟩
end Go.Proofs.Ythonnlifgdnacaa
