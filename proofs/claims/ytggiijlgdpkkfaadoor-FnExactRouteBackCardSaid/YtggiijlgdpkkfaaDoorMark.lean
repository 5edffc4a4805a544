/- A world in which one block holds a list of numbers, then whatever else, under a mark that reaches none of them: what a text's bytes are laid as. -/
import Derived.Test.YtggiijlgdpkkfaaDoorRow
import Derived.Test.YtggiijlgdpkkfaaDoorProg
import Derived.Laws.BytesArg
import Derived.Laws.Rows
import Derived.Laws.IdiomStrings
import Derived.Laws.AppendOwn
namespace Go.Proofs.YtggiijlgdpkkfaaDoor
open Go.RowKit
def rowM (w : World) (b : Nat) (e : TypeId) (kd : IntKind) (xs : List Int) (rest : List Value) : World := { w with heap := w.heap.setIfInBounds b (.cells (xs.map (Value.int kd) ++ rest).toArray e (xs.length + rest.length, xs.length + rest.length + 1)) }
section
variable (w : World) (b : Nat) (e : TypeId) (kd : IntKind) (xs : List Int) (rest : List Value)
theorem get_rowM (hb : b < w.heap.size) : (rowM w b e kd xs rest).heap[b]? = some (.cells (xs.map (Value.int kd) ++ rest).toArray e (xs.length + rest.length, xs.length + rest.length + 1)) := by
  simp [rowM, hb]
theorem get_rowM_other (n : Nat) (h : n ≠ b) : (rowM w b e kd xs rest).heap[n]? = w.heap[n]? := by
  simp only [rowM]
  rw [Array.getElem?_setIfInBounds_ne (by omega)]
@[go_sem] theorem size_rowM : (rowM w b e kd xs rest).heap.size = w.heap.size := by simp [rowM]
@[go_sem] theorem cell_rowM (i : Nat) (hi : i < xs.length) (hb : b < w.heap.size) : (rowM w b e kd xs rest).cell? ⟨b, i, none⟩ = some (.int kd (xs.getD i 0)) := by
  unfold World.cell?
  rw [show (⟨b, i, none⟩ : Addr).block = b from rfl, get_rowM w b e kd xs rest hb]
  simp [hi, List.getElem?_append_left, List.getD]
@[go_sem] theorem frozen_rowM (i : Nat) (hi : i < xs.length) (hb : b < w.heap.size) : (rowM w b e kd xs rest).frozen? ⟨b, i, none⟩ = false := by
  unfold World.frozen?
  rw [show (⟨b, i, none⟩ : Addr).block = b from rfl, get_rowM w b e kd xs rest hb]
  simp only [Bool.and_eq_false_imp, decide_eq_true_eq, decide_eq_false_iff_not] at *
  intro h
  omega
@[go_sem] theorem set_rowM (i : Nat) (v : Int) (hi : i < xs.length) (hb : b < w.heap.size) : (rowM w b e kd xs rest).setCell ⟨b, i, none⟩ (.int kd v) = rowM w b e kd (xs.set i v) rest := by
  unfold World.setCell rowM
  simp only [World.mk.injEq, and_self, and_true]
  apply Array.ext_getElem?
  intro k
  rw [Array.getElem?_modify, Array.getElem?_setIfInBounds, Array.getElem?_setIfInBounds]
  by_cases hk : b = k
  · subst hk
    simp only [if_true, hb, Option.map_some]
    simp [List.set_append_left, hi]
  · rw [if_neg hk, if_neg hk, if_neg hk]
@[go_sem] theorem drew_rowM : (rowM w b e kd xs rest).drew = rowM w.drew b e kd xs rest := rfl
theorem rowM_same (hb : w.heap[b]? = some (.cells (xs.map (Value.int kd) ++ rest).toArray e (xs.length + rest.length, xs.length + rest.length + 1))) : rowM w b e kd xs rest = w := by
  obtain ⟨hp, tp, dr, o, out⟩ := w
  simp only [rowM, World.mk.injEq, and_self, and_true] at *
  apply Array.ext_getElem?
  intro k
  rw [Array.getElem?_setIfInBounds]
  by_cases hk : b = k
  · subst hk
    rw [hb]
    have := (Array.getElem?_eq_some_iff.1 hb).1
    simp [this]
  · rw [if_neg hk]
theorem below_rowM {B : Nat} {a : World} (h : Below B a w) (hB : B ≤ b) : Below B a (rowM w b e kd xs rest) :=
  ⟨h.os, h.tape, h.output, by rw [size_rowM]; exact h.size, fun k hk => by rw [get_rowM_other _ _ _ _ _ _ _ (by omega)]; exact h.block k hk⟩
end
/-- a text's bytes as numbers -/
def byteI (s : ByteArray) : List Int := s.data.toList.map fun b => (b.toNat : Int)
theorem byteI_len (s : ByteArray) : (byteI s).length = s.size := by
  unfold byteI
  rw [List.length_map, Array.length_toList]
  rfl
theorem byteI_bd (s : ByteArray) (i : Nat) : 0 ≤ (byteI s).getD i 0 ∧ (byteI s).getD i 0 < 256 := by
  unfold byteI
  rw [List.getD_eq_getElem?_getD, List.getElem?_map]
  cases h : s.data.toList[i]? with
  | none => simp
  | some c => have := UInt8.toNat_lt c; simp; omega
/-- a text's bytes, laid -/
theorem str_bytes (s : ByteArray) (w : World) : ∃ (cap : Nat) (rest : List Value), s.size ≤ cap ∧
    (convert 9 44 (.string s)).run Tryd.prog w = .ok (.slice (some ⟨w.heap.size, 0, none⟩) s.size cap) (rowM (w.drew.alloc (.cells #[] 5)) w.heap.size 5 .u8 (byteI s) rest) := by
  have h := run_bytes_of_string w 9 44 5 s Tryd.underlying9 Tryd.underlying44 Tryd.underlying5
  refine ⟨grownCap w s.size 0 5, List.replicate (grownCap w s.size 0 5 - s.size) (.int .u8 0), ?_, h.trans ?_⟩
  · exact grownCap_ge w s.size 0 5
  · have hsz : (bytesRow s (grownCap w s.size 0 5)).size = (byteI s).length + (List.replicate (grownCap w s.size 0 5 - s.size) (Value.int .u8 0)).length := by
      rw [byteI_len, List.length_replicate]
      unfold bytesRow
      rw [Array.size_append, Array.size_map, Array.size_replicate]
      rfl
    rw [hsz]
    congr 1
    unfold rowM World.alloc World.drew
    simp only [World.mk.injEq, and_self, and_true]
    apply Array.ext_getElem?
    intro k
    rw [Array.getElem?_setIfInBounds, Array.getElem?_push, Array.getElem?_push]
    by_cases h : w.heap.size = k
    · subst h
      simp [bytesRow, byteI]
    · rw [if_neg h, if_neg (by omega), if_neg (by omega)]
/-- a row of bytes as a text -/
@[go_sem] theorem conv_rowM (w : World) (b cap n : Nat) (xs : List Int) (rest : List Value) (hb : b < w.heap.size) (hn : xs.length = n) :
    (convert 44 9 (.slice (some ⟨b, 0, none⟩) n cap)).run Tryd.prog (rowM w b 5 .u8 xs rest) = .ok (.string (strOfNums xs)) (rowM w b 5 .u8 xs rest) := by
  refine run_convert_bytes_arg _ 44 5 Tryd.underlying44 Tryd.underlying5 b 0 n cap xs hn ?_ 9 Tryd.underlying9
  intro i hi
  rw [Nat.zero_add, cell_rowM _ _ _ _ _ _ _ (by omega) hb]
end Go.Proofs.YtggiijlgdpkkfaaDoor
