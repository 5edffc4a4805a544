/- An argument that is a list of acts, opened. -/
import Derived.Test.YthonnlifgdnacaaAcs
import Derived.Test.YthonnlifgdnacaaOpenP
import Derived.Deep.Strs
import Derived.ProofKit
import Derived.OpenShut
import Derived.ShutString
namespace Go.Proofs.Ythonnlifgdnacaa
open Go.ChangeShapes Go.WideShapes Go.ChangeAt Go.RowKit
set_option maxRecDepth 20000
theorem cell_ltT {W : World} {b i : Nat} {v : Value} (h : W.cell? ⟨b, i, none⟩ = some v) : b < W.heap.size := by
  unfold World.cell? at h
  rw [show (⟨b, i, none⟩ : Addr).block = b from rfl] at h
  rcases Nat.lt_or_ge b W.heap.size with hl | hl
  · exact hl
  · rw [Array.getElem?_eq_none hl] at h; cases h
instance : Inhabited Ta := ⟨ta0⟩
theorem hc91 : Try.prog.cellsOf 91 = 5 := by kernel_rfl
theorem ta_of {H : Type} {enc : TypeId × Value → H} {W : World} {base fuel : Nat} {sp : Nat → Bool} {held : Bool} {cs : List Value} {y : DataW H × List MemPlace}
    (hl : cs.length = 5) (h : DataW.trod enc Try.prog W base sp held fuel 91 cs = some y) : ∃ a : Ta, cs = [.int .i64 a.k, .int .i64 a.w, .string a.t, .bool a.la, .bool a.lb] ∧ a.t.size ≤ maxLen := by
  match cs, hl with
  | [x0, x1, x2, x3, x4], _ =>
    obtain ⟨ys, m, _, hx, _, hl, hf⟩ := Go.DataW.trod_struct Try.underlying91 h
    match ys, hl with
    | [y0, y1, y2, y3, y4], _ =>
      have h0 := hf 0 _ rfl
      have h1 := hf 1 _ rfl
      have h2 := hf 2 _ rfl
      have h3 := hf 3 _ rfl
      have h4 := hf 4 _ rfl
      simp [hc3, hc4, hc9b] at h0 h1 h2 h3 h4
      obtain ⟨k, e0, _, _⟩ := Go.DataW.trod_int Try.underlying3 h0
      obtain ⟨w, e1, _, _⟩ := Go.DataW.trod_int Try.underlying3 h1
      obtain ⟨t, e2, _, ht⟩ := Go.DataW.trod_string Try.underlying9 h2
      obtain ⟨la, e3, _⟩ := Go.DataW.trod_bool Try.underlying4 h3
      obtain ⟨lb, e4, _⟩ := Go.DataW.trod_bool Try.underlying4 h4
      simp at e0 e1 e2 e3 e4
      subst e0 e1 e2 e3 e4
      exact ⟨⟨k, w, t, la, lb⟩, rfl, ht⟩
theorem open_acts {H : Type} {enc : TypeId × Value → H} {W : World} {base : Nat} {sp : Nat → Bool} {held : Bool} {rc : Reach} {b0 : Nat} {v : Value} {x : DataW H} {ps : List MemPlace}
    (hval : Value.okWide Try.prog W rc b0 59 v) (h : DataW.Trod enc Try.prog W base sp held 59 v x ps) :
    ∃ qs : List Ta, actsV W v qs ∧ qs.length ≤ maxLen ∧ ∀ a ∈ qs, a.t.size ≤ maxLen := by
  obtain ⟨A, n, c, rfl⟩ := okWide_slice Try.underlying59 hval
  obtain ⟨fuel, hy⟩ := h
  have hy' : DataW.trod enc Try.prog W base sp held fuel 59 [.slice A n c] = some (x, ps) := hy
  rcases Go.Deep.open_slice Try.underlying59 hy' with ⟨e, _⟩ | ⟨a, len, cap, m, k, D, Pl, e, hb, hl, hm, hmm, _, hx⟩
  · simp only [List.cons.injEq, and_true, Value.slice.injEq] at e
    obtain ⟨rfl, rfl, rfl⟩ := e
    exact ⟨[], ⟨none, 0, rfl, fun h => by simp at h⟩, Nat.zero_le _, fun t ht => by cases ht⟩
  · simp only [List.cons.injEq, and_true, Value.slice.injEq] at e
    obtain ⟨rfl, rfl, rfl⟩ := e
    have hlm : n ≤ m := by rw [hmm]; split <;> omega
    have each : ∀ i, i < n → ∃ p : Ta, (W.cell? (a.add (i * 5)) = some (.int .i64 p.k) ∧ W.cell? (a.add (i * 5 + 1)) = some (.int .i64 p.w) ∧ W.cell? (a.add (i * 5 + 2)) = some (.string p.t) ∧ W.cell? (a.add (i * 5 + 3)) = some (.bool p.la) ∧ W.cell? (a.add (i * 5 + 4)) = some (.bool p.lb)) ∧ p.t.size ≤ maxLen := by
      intro i hi
      obtain ⟨cs', h1, h2⟩ := hx i (by omega)
      rw [hc91] at h1
      obtain ⟨_, hlen, hcell⟩ := World.cells?_some h1
      obtain ⟨p, rfl, hr⟩ := ta_of hlen h2
      have e0 := hcell 0 (by omega)
      have e1 := hcell 1 (by omega)
      have e2 := hcell 2 (by omega)
      have e3 := hcell 3 (by omega)
      have e4 := hcell 4 (by omega)
      rw [Go.Deep.add_add] at e0 e1 e2 e3 e4
      exact ⟨p, ⟨by simpa using e0, by simpa using e1, by simpa using e2, by simpa using e3, by simpa using e4⟩, hr⟩
    obtain ⟨q, hq⟩ := Go.Deep.choose_lt each
    refine ⟨(List.range n).map q, ⟨some a, c, by simp, fun h0 => ?_⟩, by simp; omega, fun p hp => ?_⟩
    · have h0' : 0 < n := by simpa using h0
      obtain ⟨b, off, spot⟩ := a
      have hspot : spot = none := by simpa [Addr.add] using World.cell?_spot (hq 0 h0').1.1
      subst hspot
      have hc0 := (hq 0 h0').1.1
      rw [Addr.add_lit] at hc0
      refine ⟨b, off, rfl, cell_ltT hc0, fun i hi => ?_⟩
      have hi' : i < n := by simpa using hi
      obtain ⟨⟨g0, g1, g2, g3, g4⟩, _⟩ := hq i hi'
      rw [Addr.add_lit] at g0 g1 g2 g3 g4
      rw [List.getD_eq_getElem?_getD, List.getElem?_map, List.getElem?_range hi']
      exact ⟨g0, g1, g2, g3, g4⟩
    · obtain ⟨i, hi, rfl⟩ := List.mem_map.1 hp
      exact (hq i (by have := List.mem_range.1 hi; omega)).2
end Go.Proofs.Ythonnlifgdnacaa
