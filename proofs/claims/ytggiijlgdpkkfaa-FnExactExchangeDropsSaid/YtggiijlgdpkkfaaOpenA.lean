/- An argument that is a list of accesses, opened. -/
import Derived.Test.YtggiijlgdpkkfaaAcs
import Derived.Deep.Strs
import Derived.ProofKit
import Derived.OpenShut
import Derived.ShutString
namespace Go.Proofs.Ytggiijlgdpkkfaa
open Go.ChangeShapes Go.WideShapes Go.ChangeAt Go.RowKit
theorem cell_lt {W : World} {b i : Nat} {v : Value} (h : W.cell? ⟨b, i, none⟩ = some v) : b < W.heap.size := by
  unfold World.cell? at h
  rw [show (⟨b, i, none⟩ : Addr).block = b from rfl] at h
  rcases Nat.lt_or_ge b W.heap.size with hl | hl
  · exact hl
  · rw [Array.getElem?_eq_none hl] at h; cases h
theorem hc73 : Try.prog.cellsOf 73 = 2 := by kernel_rfl
theorem hc9 : Try.prog.cellsOf 9 = 1 := by kernel_rfl
theorem acs_of {H : Type} {enc : TypeId × Value → H} {W : World} {base fuel : Nat} {sp : Nat → Bool} {held : Bool} {cs : List Value} {y : DataW H × List MemPlace}
    (hl : cs.length = 2) (h : DataW.trod enc Try.prog W base sp held fuel 73 cs = some y) : ∃ r t : ByteArray, cs = [.string r, .string t] ∧ r.size ≤ maxLen ∧ t.size ≤ maxLen := by
  match cs, hl with
  | [x0, x1], _ =>
    obtain ⟨y0, y1, n, _, _, h0, h1⟩ := trod_struct2 Try.underlying73 h
    simp [hc9] at h0 h1
    obtain ⟨r, e0, _, hr⟩ := Go.DataW.trod_string Try.underlying9 h0
    obtain ⟨t, e1, _, ht⟩ := Go.DataW.trod_string Try.underlying9 h1
    simp at e0 e1
    subst e0 e1
    exact ⟨r, t, rfl, hr, ht⟩
theorem open_acs {H : Type} {enc : TypeId × Value → H} {W : World} {base : Nat} {sp : Nat → Bool} {held : Bool} {rc : Reach} {b0 : Nat} {v : Value} {x : DataW H} {ps : List MemPlace}
    (hval : Value.okWide Try.prog W rc b0 42 v) (h : DataW.Trod enc Try.prog W base sp held 42 v x ps) :
    ∃ qs : List Acs, acsV W v qs ∧ qs.length ≤ maxLen ∧ ∀ p ∈ qs, p.1.size ≤ maxLen ∧ p.2.size ≤ maxLen := by
  obtain ⟨A, n, c, rfl⟩ := okWide_slice Try.underlying42 hval
  obtain ⟨fuel, hy⟩ := h
  have hy' : DataW.trod enc Try.prog W base sp held fuel 42 [.slice A n c] = some (x, ps) := hy
  rcases Go.Deep.open_slice Try.underlying42 hy' with ⟨e, _⟩ | ⟨a, len, cap, m, k, D, Pl, e, hb, hl, hm, hmm, _, hx⟩
  · simp only [List.cons.injEq, and_true, Value.slice.injEq] at e
    obtain ⟨rfl, rfl, rfl⟩ := e
    exact ⟨[], ⟨none, 0, rfl, fun h => by simp at h⟩, Nat.zero_le _, fun t ht => by cases ht⟩
  · simp only [List.cons.injEq, and_true, Value.slice.injEq] at e
    obtain ⟨rfl, rfl, rfl⟩ := e
    have hlm : n ≤ m := by rw [hmm]; split <;> omega
    have each : ∀ i, i < n → ∃ p : Acs, W.cell? (a.add (i * 2)) = some (.string p.1) ∧ W.cell? (a.add (i * 2 + 1)) = some (.string p.2) ∧ p.1.size ≤ maxLen ∧ p.2.size ≤ maxLen := by
      intro i hi
      obtain ⟨cs', h1, h2⟩ := hx i (by omega)
      rw [hc73] at h1
      obtain ⟨_, hlen, hcell⟩ := World.cells?_some h1
      obtain ⟨r, t, rfl, hr, ht⟩ := acs_of hlen h2
      have e0 := hcell 0 (by omega)
      have e1 := hcell 1 (by omega)
      rw [Go.Deep.add_add] at e0 e1
      exact ⟨(r, t), by simpa using e0, by simpa using e1, hr, ht⟩
    obtain ⟨q, hq⟩ := Go.Deep.choose_lt each
    refine ⟨(List.range n).map q, ⟨some a, c, by simp, fun h0 => ?_⟩, by simp; omega, fun p hp => ?_⟩
    · have h0' : 0 < n := by simpa using h0
      obtain ⟨b, off, spot⟩ := a
      have hspot : spot = none := by simpa [Addr.add] using World.cell?_spot (hq 0 h0').1
      subst hspot
      have hc0 := (hq 0 h0').1
      rw [Addr.add_lit] at hc0
      refine ⟨b, off, rfl, cell_lt hc0, fun i hi => ?_⟩
      have hi' : i < n := by simpa using hi
      obtain ⟨g0, g1, _⟩ := hq i hi'
      rw [Addr.add_lit] at g0 g1
      rw [List.getD_eq_getElem?_getD, List.getElem?_map, List.getElem?_range hi']
      exact ⟨g0, g1⟩
    · obtain ⟨i, hi, rfl⟩ := List.mem_map.1 hp
      exact (hq i (by have := List.mem_range.1 hi; omega)).2.2
end Go.Proofs.Ytggiijlgdpkkfaa
