/- An argument that is a list of lists of texts, opened. -/
import Derived.Test.YtecgfkfifocbaaaOpenS
import Derived.Test.YtecgfkfifocbaaaLss
import Derived.Deep.Slices
namespace Go.Proofs.Ytecgfkfifocbaaa
open Go.ChangeShapes Go.WideShapes Go.ChangeAt Go.RowKit
set_option maxHeartbeats 4000000
theorem open_lss {H : Type} {enc : TypeId × Value → H} {W : World} {base : Nat} {rc : Reach} {b0 : Nat} {sp : Nat → Bool} {held : Bool} {v : Value} {d : DataW H} {ps : List MemPlace}
    (hval : Value.okWide Try.prog W rc b0 29 v) (h : DataW.Trod enc Try.prog W base sp held 29 v d ps) :
    ∃ xss : List (List ByteArray), lssV W v xss ∧ xss.length ≤ maxLen ∧ ∀ i, i < xss.length → (xss.getD i []).length ≤ maxLen ∧ ∀ t ∈ xss.getD i [], t.size ≤ maxLen := by
  obtain ⟨A, n, c, rfl⟩ := okWide_slice Try.underlying29 hval
  obtain ⟨fuel, hy⟩ := h
  have hy' : DataW.trod enc Try.prog W base sp held fuel 29 [.slice A n c] = some (d, ps) := hy
  have hc22 : Try.prog.cellsOf 22 = 1 := by kernel_rfl
  rcases Go.Deep.open_slice1 Try.underlying29 hc22 hy' with ⟨e, _⟩ | ⟨a, len, cap, m, k, V, D, Pl, e, hb, hl, hm, hmm, _, hx⟩
  · simp only [List.cons.injEq, and_true, Value.slice.injEq] at e
    obtain ⟨rfl, rfl, rfl⟩ := e
    exact ⟨[], ⟨none, 0, rfl, fun h => by simp at h⟩, Nat.zero_le _, fun i hi => by simp at hi⟩
  · simp only [List.cons.injEq, and_true, Value.slice.injEq] at e
    obtain ⟨rfl, rfl, rfl⟩ := e
    have hlm : n ≤ m := by rw [hmm]; split <;> omega
    have each : ∀ i, i < n → ∃ ts : List ByteArray, strsV W (V i) ts ∧ ts.length ≤ maxLen ∧ ∀ t ∈ ts, t.size ≤ maxLen := fun i hi => strs_of (hx i (by omega)).2
    obtain ⟨q, hq⟩ := Go.Deep.choose_lt each
    have at_i : ∀ i, i < n → ((List.range n).map q).getD i [] = q i := fun i hi => by
      rw [List.getD_eq_getElem?_getD, List.getElem?_map, List.getElem?_range hi]; rfl
    refine ⟨(List.range n).map q, ⟨some a, c, by simp, fun h0 => ?_⟩, by simp; omega, fun i hi => ?_⟩
    · have h0' : 0 < n := by simpa using h0
      obtain ⟨b, off, spot⟩ := a
      have hspot : spot = none := by simpa [Addr.add] using World.cell?_spot (hx 0 (by omega)).1
      subst hspot
      have hc0 := (hx 0 (by omega)).1
      rw [Addr.add_lit] at hc0
      refine ⟨b, off, rfl, lt_of_cell hc0, fun i hi => ?_⟩
      have hi' : i < n := by simpa using hi
      have hci := (hx i (by omega)).1
      rw [Addr.add_lit] at hci
      exact ⟨V i, hci, by rw [at_i i hi']; exact (hq i hi').1⟩
    · have hi' : i < n := by simpa using hi
      rw [at_i i hi']
      exact (hq i hi').2
end Go.Proofs.Ytecgfkfifocbaaa
