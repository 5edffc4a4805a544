/- An argument that is a list of texts, opened. -/
import Derived.Test.YthonnlifgdnacaaStr
import Derived.Deep.Strs
import Derived.ProofKit
import Derived.OpenShut
import Derived.ProofKit
namespace Go.Proofs.Ythonnlifgdnacaa
open Go.ChangeShapes Go.WideShapes Go.ChangeAt Go.RowKit
set_option maxHeartbeats 4000000
set_option maxRecDepth 20000
theorem lt_of_cell {W : World} {b i : Nat} {v : Value} (h : W.cell? ⟨b, i, none⟩ = some v) : b < W.heap.size := by
  unfold World.cell? at h
  rw [show (⟨b, i, none⟩ : Addr).block = b from rfl] at h
  rcases Nat.lt_or_ge b W.heap.size with hl | hl
  · exact hl
  · rw [Array.getElem?_eq_none hl] at h; cases h
theorem strs_of {H : Type} {enc : TypeId × Value → H} {W : World} {base fuel : Nat} {sp : Nat → Bool} {held : Bool} {x0 : Value} {y : DataW H × List MemPlace}
    (h : DataW.trod enc Try.prog W base sp held fuel 31 [x0] = some y) : ∃ ts : List ByteArray, strsV W x0 ts ∧ ts.length ≤ maxLen ∧ ∀ t ∈ ts, t.size ≤ maxLen := by
  have hc9 : Try.prog.cellsOf 9 = 1 := by kernel_rfl
  rcases Go.Deep.open_strs Try.underlying31 Try.underlying9 hc9 h with ⟨e, _⟩ | ⟨a, len, cap, m, Sx, e, _, hl, hm, hmm, _, hcell⟩
  · simp only [List.cons.injEq, and_true] at e
    subst e
    exact ⟨[], ⟨none, 0, rfl, fun h => by simp at h⟩, Nat.zero_le _, fun t ht => by cases ht⟩
  · simp only [List.cons.injEq, and_true] at e
    subst e
    have hlm : len ≤ m := by rw [hmm]; split <;> omega
    refine ⟨(List.range len).map Sx, ⟨some a, cap, by simp, fun h0 => ?_⟩, by simp; omega, fun t ht => ?_⟩
    · have h0' : 0 < len := by simpa using h0
      obtain ⟨b, off, spot⟩ := a
      have hspot : spot = none := by simpa [Addr.add] using World.cell?_spot (hcell 0 (by omega)).1
      subst hspot
      have hc0 := (hcell 0 (by omega)).1
      rw [Addr.add_lit] at hc0
      refine ⟨b, off, rfl, lt_of_cell hc0, fun i hi => ?_⟩
      have hi' : i < len := by simpa using hi
      have := (hcell i (by omega)).1
      rw [Addr.add_lit] at this
      rw [this, List.getD_eq_getElem?_getD, List.getElem?_map, List.getElem?_range hi']
      rfl
    · obtain ⟨i, hi, rfl⟩ := List.mem_map.1 ht
      exact (hcell i (by have := List.mem_range.1 hi; omega)).2
/-- an argument that is a list of texts, opened -/
theorem open_strs {H : Type} {enc : TypeId × Value → H} {W : World} {base : Nat} {rc : Reach} {b0 : Nat} {sp : Nat → Bool} {held : Bool} {v : Value} {d : DataW H} {ps : List MemPlace}
    (hval : Value.okWide Try.prog W rc b0 31 v) (h : DataW.Trod enc Try.prog W base sp held 31 v d ps) : ∃ ts : List ByteArray, strsV W v ts ∧ ts.length ≤ maxLen ∧ ∀ t ∈ ts, t.size ≤ maxLen := by
  obtain ⟨A, n, c, rfl⟩ := okWide_slice Try.underlying31 hval
  obtain ⟨fuel, hf⟩ := h
  exact strs_of hf
end Go.Proofs.Ythonnlifgdnacaa
