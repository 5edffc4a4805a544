/- An argument that is a list of salts, or a filter, opened. -/
import Derived.Test.YthckgccfjpgbaaaBlm
import Derived.Deep.Strs
import Derived.Lib.SmallJoins
import Derived.ProofKit
import Derived.OpenShut
import Derived.ShutString
namespace Go.Proofs.Ythckgccfjpgbaaa
open Go.ChangeShapes Go.WideShapes Go.ChangeAt Go.RowKit
theorem cell_lt {W : World} {b i : Nat} {v : Value} (h : W.cell? ⟨b, i, none⟩ = some v) : b < W.heap.size := by
  unfold World.cell? at h
  rw [show (⟨b, i, none⟩ : Addr).block = b from rfl] at h
  rcases Nat.lt_or_ge b W.heap.size with hl | hl
  · exact hl
  · rw [Array.getElem?_eq_none hl] at h; cases h
theorem hc87 : Try.prog.cellsOf 87 = 2 := by kernel_rfl
theorem hc52 : Try.prog.cellsOf 52 = 4 := by kernel_rfl
theorem hc3 : Try.prog.cellsOf 3 = 1 := by kernel_rfl
theorem hc4 : Try.prog.cellsOf 4 = 1 := by kernel_rfl
theorem hc43 : Try.prog.cellsOf 43 = 1 := by kernel_rfl
theorem hc24 : Try.prog.cellsOf 24 = 1 := by kernel_rfl
theorem salt_of {H : Type} {enc : TypeId × Value → H} {W : World} {base fuel : Nat} {sp : Nat → Bool} {held : Bool} {cs : List Value} {y : DataW H × List MemPlace}
    (hl : cs.length = 2) (h : DataW.trod enc Try.prog W base sp held fuel 87 cs = some y) : ∃ x z : Int, cs = [.int .i64 x, .int .i64 z] := by
  match cs, hl with
  | [x0, x1], _ =>
    obtain ⟨y0, y1, n, _, _, h0, h1⟩ := trod_struct2 Try.underlying87 h
    simp [hc3] at h0 h1
    obtain ⟨r, e0, _, _⟩ := Go.DataW.trod_int Try.underlying3 h0
    obtain ⟨l, e1, _, _⟩ := Go.DataW.trod_int Try.underlying3 h1
    simp at e0 e1
    subst e0 e1
    exact ⟨r, l, rfl⟩
theorem salts_of {H : Type} {enc : TypeId × Value → H} {W : World} {base fuel : Nat} {sp : Nat → Bool} {held : Bool} {v : Value} {y : DataW H × List MemPlace}
    (hy : DataW.trod enc Try.prog W base sp held fuel 43 [v] = some y) : ∃ ss : List Slt, saltsV W v ss ∧ ss.length ≤ maxLen := by
  rcases Go.Deep.open_slice Try.underlying43 hy with ⟨e, _⟩ | ⟨a, len, cap, m, k, D, Pl, e, hb, hl, hm, hmm, _, hx⟩
  · simp only [List.cons.injEq, and_true] at e
    subst e
    exact ⟨[], ⟨none, 0, rfl, fun h => by simp at h⟩, Nat.zero_le _⟩
  · simp only [List.cons.injEq, and_true] at e
    subst e
    have hlm : len ≤ m := by rw [hmm]; split <;> omega
    have each : ∀ i, i < len → ∃ p : Slt, W.cell? (a.add (i * 2)) = some (.int .i64 p.1) ∧ W.cell? (a.add (i * 2 + 1)) = some (.int .i64 p.2) := by
      intro i hi
      obtain ⟨cs', h1, h2⟩ := hx i (by omega)
      rw [hc87] at h1
      obtain ⟨_, hlen, hcell⟩ := World.cells?_some h1
      obtain ⟨r, l, rfl⟩ := salt_of hlen h2
      have e0 := hcell 0 (by omega)
      have e1 := hcell 1 (by omega)
      rw [Go.Deep.add_add] at e0 e1
      exact ⟨(r, l), by simpa using e0, by simpa using e1⟩
    obtain ⟨q, hq⟩ := Go.Deep.choose_lt each
    refine ⟨(List.range len).map q, ⟨some a, cap, by simp, fun h0 => ?_⟩, by simp; omega⟩
    have h0' : 0 < len := by simpa using h0
    obtain ⟨b, off, spot⟩ := a
    have hspot : spot = none := by simpa [Addr.add] using World.cell?_spot (hq 0 h0').1
    subst hspot
    have hc0 := (hq 0 h0').1
    rw [Addr.add_lit] at hc0
    refine ⟨b, off, rfl, cell_lt hc0, fun i hi => ?_⟩
    have hi' : i < len := by simpa using hi
    obtain ⟨g0, g1⟩ := hq i hi'
    rw [Addr.add_lit] at g0 g1
    rw [List.getD_eq_getElem?_getD, List.getElem?_map, List.getElem?_range hi']
    exact ⟨g0, g1⟩
theorem bools_of {H : Type} {enc : TypeId × Value → H} {W : World} {base fuel : Nat} {sp : Nat → Bool} {held : Bool} {v : Value} {y : DataW H × List MemPlace}
    (hy : DataW.trod enc Try.prog W base sp held fuel 24 [v] = some y) : ∃ bs : List Bool, boolsV W v bs ∧ bs.length ≤ maxLen := by
  rcases Go.Deep.open_slice Try.underlying24 hy with ⟨e, _⟩ | ⟨a, len, cap, m, k, D, Pl, e, hb, hl, hm, hmm, _, hx⟩
  · simp only [List.cons.injEq, and_true] at e
    subst e
    exact ⟨[], ⟨none, 0, rfl, fun h => by simp at h⟩, Nat.zero_le _⟩
  · simp only [List.cons.injEq, and_true] at e
    subst e
    have hlm : len ≤ m := by rw [hmm]; split <;> omega
    have each : ∀ i, i < len → ∃ p : Bool, W.cell? (a.add i) = some (.bool p) := by
      intro i hi
      obtain ⟨cs', h1, h2⟩ := hx i (by omega)
      rw [hc4] at h1
      obtain ⟨_, hlen, hcell⟩ := World.cells?_some h1
      obtain ⟨p, rfl, _⟩ := Go.DataW.trod_bool Try.underlying4 h2
      have e0 := hcell 0 (by omega)
      rw [Go.Deep.add_add] at e0
      exact ⟨p, by simpa using e0⟩
    obtain ⟨q, hq⟩ := Go.Deep.choose_lt each
    refine ⟨(List.range len).map q, ⟨some a, cap, by simp, fun h0 => ?_⟩, by simp; omega⟩
    have h0' : 0 < len := by simpa using h0
    obtain ⟨b, off, spot⟩ := a
    have hspot : spot = none := by simpa [Addr.add] using World.cell?_spot (hq 0 h0')
    subst hspot
    have hc0 := hq 0 h0'
    rw [Addr.add_lit] at hc0
    refine ⟨b, off, rfl, cell_lt hc0, fun i hi => ?_⟩
    have hi' : i < len := by simpa using hi
    have g0 := hq i hi'
    rw [Addr.add_lit] at g0
    rw [List.getD_eq_getElem?_getD, List.getElem?_map, List.getElem?_range hi']
    exact g0
theorem open_salts {H : Type} {enc : TypeId × Value → H} {W : World} {base : Nat} {sp : Nat → Bool} {held : Bool} {rc : Reach} {b0 : Nat} {v : Value} {x : DataW H} {ps : List MemPlace}
    (hval : Value.okWide Try.prog W rc b0 43 v) (h : DataW.Trod enc Try.prog W base sp held 43 v x ps) : ∃ ss : List Slt, saltsV W v ss ∧ ss.length ≤ maxLen := by
  obtain ⟨A, n, c, rfl⟩ := okWide_slice Try.underlying43 hval
  obtain ⟨fuel, hy⟩ := h
  exact salts_of (y := (x, ps)) hy
theorem open_bloom {H : Type} {enc : TypeId × Value → H} {W : World} {base : Nat} {sp : Nat → Bool} {held : Bool} {rc : Reach} {b0 : Nat} {v : Value} {x : DataW H} {ps : List MemPlace}
    (hval : Value.okWide Try.prog W rc b0 52 v) (h : DataW.Trod enc Try.prog W base sp held 52 v x ps) : ∃ y : Blm, blmV W v y ∧ y.s.length ≤ maxLen ∧ y.b.length ≤ maxLen := by
  obtain ⟨cs, rfl, hs⟩ := okWide_struct Try.underlying52 hval
  rw [hc52] at hs
  obtain ⟨fuel, hy⟩ := h
  obtain ⟨l⟩ := cs
  match l, hs with
  | [x0, x1, x2, x3], _ =>
    have hy' : DataW.trod enc Try.prog W base sp held fuel 52 [x0, x1, x2, x3] = some (x, ps) := hy
    obtain ⟨y0, y1, y2, y3, n, _, _, h0, h1, h2, h3⟩ := Go.Joins.trod_struct4 Try.underlying52 hy'
    simp [hc3, hc43, hc24] at h0 h1 h2 h3
    obtain ⟨p, e0, _, _⟩ := Go.DataW.trod_int Try.underlying3 h0
    obtain ⟨wd, e1, _, _⟩ := Go.DataW.trod_int Try.underlying3 h1
    simp at e0 e1
    subst e0 e1
    obtain ⟨ss, hss, hl⟩ := salts_of h2
    obtain ⟨bs, hbs, hl'⟩ := bools_of h3
    exact ⟨⟨p, wd, ss, bs⟩, ⟨x2, x3, rfl, hss, hbs⟩, hl, hl'⟩
end Go.Proofs.Ythckgccfjpgbaaa
