/- An argument of bytes, as a list of numbers. -/
import Derived.Test.YtncplefjokbbjaaDoorCodeOf
import Derived.Test.YtncplefjokbbjaaDoorByt
namespace Go.Proofs.YtncplefjokbbjaaDoor
open Go.RowKit
def numOf (v : Option Value) : Int := match v with
  | some (.int .u8 c) => c
  | _ => 0
theorem lt_of_cell {W : World} {b i : Nat} {v : Value} (h : W.cell? ⟨b, i, none⟩ = some v) : b < W.heap.size := by
  unfold World.cell? at h
  rw [show (⟨b, i, none⟩ : Addr).block = b from rfl] at h
  rcases Nat.lt_or_ge b W.heap.size with hl | hl
  · exact hl
  · rw [Array.getElem?_eq_none hl] at h; cases h
theorem bytes_of_code {W : World} {A : Option Addr} {n : Nat} (cap : Nat) (h : codeAt W A n) : ∃ xs : List Int, xs.length = n ∧ bytesV W (.slice A n cap) xs := by
  rcases Nat.eq_zero_or_pos n with rfl | h0
  · exact ⟨[], rfl, A, cap, rfl, (fun x hx => by cases hx), fun hh => by simp at hh⟩
  · obtain ⟨b, off, rfl, hc⟩ := h h0
    refine ⟨(List.range n).map fun i => numOf (W.cell? ⟨b, off + i, none⟩), by simp, some ⟨b, off, none⟩, cap, by simp, ?_, fun _ => ⟨b, off, rfl, ?_, ?_⟩⟩
    · intro x hx
      obtain ⟨i, hi, rfl⟩ := List.mem_map.1 hx
      obtain ⟨c, c0, c1, e⟩ := hc i (List.mem_range.1 hi)
      rw [e]
      exact ⟨c0, c1⟩
    · obtain ⟨c, _, _, e⟩ := hc 0 h0
      exact lt_of_cell e
    · intro i hi
      have hi' : i < n := by simpa using hi
      obtain ⟨c, _, _, e⟩ := hc i hi'
      rw [List.getD_eq_getElem?_getD, List.getElem?_map, List.getElem?_range hi']
      show W.cell? ⟨b, off + i, none⟩ = some (.int .u8 (numOf (W.cell? ⟨b, off + i, none⟩)))
      rw [e]
      rfl
end Go.Proofs.YtncplefjokbbjaaDoor
