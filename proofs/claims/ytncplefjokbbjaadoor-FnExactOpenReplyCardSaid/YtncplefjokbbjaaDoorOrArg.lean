/- The law of OpenReply over arguments as they came in. -/
import Derived.Test.YtncplefjokbbjaaDoorArg
import Derived.Test.YtncplefjokbbjaaDoorOrLaw
import Derived.Deep.Strs
import Derived.ProofKit
import Derived.OpenShut
namespace Go.Proofs.YtncplefjokbbjaaDoor
open Go.ChangeShapes Go.WideShapes Go.ChangeAt Go.RowKit
theorem strs_of {H : Type} {enc : TypeId × Value → H} {W : World} {base fuel : Nat} {sp : Nat → Bool} {held : Bool} {x0 : Value} {y : DataW H × List MemPlace}
    (h : DataW.trod enc Tryd.prog W base sp held fuel 29 [x0] = some y) : ∃ ts : List ByteArray, strsV W x0 ts ∧ ts.length ≤ maxLen ∧ ∀ t ∈ ts, t.size ≤ maxLen := by
  have hc9 : Tryd.prog.cellsOf 9 = 1 := by kernel_rfl
  rcases Go.Deep.open_strs Tryd.underlying29 Tryd.underlying9 hc9 h with ⟨e, _⟩ | ⟨a, len, cap, m, Sx, e, _, hl, hm, hmm, _, hcell⟩
  · simp only [List.cons.injEq, and_true] at e
    subst e
    exact ⟨[], ⟨none, 0, rfl, fun h => by simp at h⟩, Nat.zero_le _, fun t ht => by cases ht⟩
  · simp only [List.cons.injEq, and_true] at e
    subst e
    have hlm : len ≤ m := by rw [hmm]; split <;> omega
    refine ⟨(List.range len).map Sx, ⟨some a, cap, by simp, fun h0 => ?_⟩, by simp; omega, fun t ht => ?_⟩
    · have h0' : 0 < len := by simpa using h0
      obtain ⟨b, off, spot⟩ := a
      have hspot : spot = none := by simpa [Addr.add] using World.cell?_spot (hcell 0 (by omega)).1
      subst hspot
      have hc0 := (hcell 0 (by omega)).1
      rw [Addr.add_lit] at hc0
      refine ⟨b, off, rfl, lt_of_cell hc0, fun i hi => ?_⟩
      have hi' : i < len := by simpa using hi
      have := (hcell i (by omega)).1
      rw [Addr.add_lit] at this
      rw [this, List.getD_eq_getElem?_getD, List.getElem?_map, List.getElem?_range hi']
      rfl
    · obtain ⟨i, hi, rfl⟩ := List.mem_map.1 ht
      exact (hcell i (by have := List.mem_range.1 hi; omega)).2
theorem strs_of_trod {H : Type} {enc : TypeId × Value → H} {W : World} {A : Option Addr} {n cap : Nat} {d : DataW H} {ps : List MemPlace}
    (h : DataW.Trod enc Tryd.prog W 0 (fun _ => true) true 29 (.slice A n cap) d ps) : ∃ ts : List ByteArray, strsV W (.slice A n cap) ts ∧ ts.length ≤ maxLen ∧ ∀ t ∈ ts, t.size ≤ maxLen := by
  obtain ⟨fuel, hf⟩ := h
  exact strs_of hf
theorem or_law_at (ts : List ByteArray) (u : Value) (A : Option Addr) (n cap : Nat) (w : World) (hu : strsV w u ts) (hl : ts.length ≤ maxLen) (hs : ∀ t ∈ ts, t.size ≤ maxLen) (hc : codeAt w A n) (t : TypeId) (fr : Nat × Nat) (hq : w.heap[0]? = some (.cells qArr t fr)) :
    Calls Tryd.prog 4 #[u, .slice A n cap] w fun e w' => e = .returned (.bool true) ∧ Below w.heap.size w w' := by
  obtain ⟨xs, _, hb⟩ := bytes_of_code cap hc
  exact or_law ts u xs _ w hu hl hs hb t fr hq
end Go.Proofs.YtncplefjokbbjaaDoor
