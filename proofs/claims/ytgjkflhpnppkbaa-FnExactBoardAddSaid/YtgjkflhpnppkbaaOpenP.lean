/- An argument that is a list of posts, or a post, opened. -/
import Derived.Test.YtgjkflhpnppkbaaPst
import Derived.Deep.Strs
import Derived.ProofKit
import Derived.OpenShut
import Derived.ShutString
namespace Go.Proofs.Ytgjkflhpnppkbaa
open Go.ChangeShapes Go.WideShapes Go.ChangeAt Go.RowKit
theorem cell_lt {W : World} {b i : Nat} {v : Value} (h : W.cell? ⟨b, i, none⟩ = some v) : b < W.heap.size := by
  unfold World.cell? at h
  rw [show (⟨b, i, none⟩ : Addr).block = b from rfl] at h
  rcases Nat.lt_or_ge b W.heap.size with hl | hl
  · exact hl
  · rw [Array.getElem?_eq_none hl] at h; cases h
theorem hc30 : Try.prog.cellsOf 30 = 3 := by kernel_rfl
theorem hc3 : Try.prog.cellsOf 3 = 1 := by kernel_rfl
theorem hc9 : Try.prog.cellsOf 9 = 1 := by kernel_rfl
theorem post_of {H : Type} {enc : TypeId × Value → H} {W : World} {base fuel : Nat} {sp : Nat → Bool} {held : Bool} {cs : List Value} {y : DataW H × List MemPlace}
    (hl : cs.length = 3) (h : DataW.trod enc Try.prog W base sp held fuel 30 cs = some y) : ∃ r l : Int, ∃ t : ByteArray, cs = [.int .i64 r, .int .i64 l, .string t] ∧ t.size ≤ maxLen := by
  match cs, hl with
  | [x0, x1, x2], _ =>
    obtain ⟨y0, y1, y2, n, _, _, h0, h1, h2⟩ := Go.Deep.trod_struct3 Try.underlying30 h
    simp [hc3, hc9] at h0 h1 h2
    obtain ⟨r, e0, _, _⟩ := Go.DataW.trod_int Try.underlying3 h0
    obtain ⟨l, e1, _, _⟩ := Go.DataW.trod_int Try.underlying3 h1
    obtain ⟨t, e2, _, ht⟩ := Go.DataW.trod_string Try.underlying9 h2
    simp at e0 e1 e2
    subst e0 e1 e2
    exact ⟨r, l, t, rfl, ht⟩
theorem open_post {H : Type} {enc : TypeId × Value → H} {W : World} {base : Nat} {sp : Nat → Bool} {held : Bool} {rc : Reach} {b0 : Nat} {v : Value} {x : DataW H} {ps : List MemPlace}
    (hval : Value.okWide Try.prog W rc b0 30 v) (h : DataW.Trod enc Try.prog W base sp held 30 v x ps) :
    ∃ (r l : Int) (t : ByteArray), v = postV (r, l, t) ∧ t.size ≤ maxLen := by
  obtain ⟨cs, rfl, hs⟩ := okWide_struct Try.underlying30 hval
  rw [hc30] at hs
  obtain ⟨fuel, hy⟩ := h
  obtain ⟨c⟩ := cs
  have hy' : DataW.trod enc Try.prog W base sp held fuel 30 c = some (x, ps) := hy
  obtain ⟨r, l, t, rfl, ht⟩ := post_of hs hy'
  exact ⟨r, l, t, rfl, ht⟩
theorem open_posts {H : Type} {enc : TypeId × Value → H} {W : World} {base : Nat} {sp : Nat → Bool} {held : Bool} {rc : Reach} {b0 : Nat} {v : Value} {x : DataW H} {ps : List MemPlace}
    (hval : Value.okWide Try.prog W rc b0 22 v) (h : DataW.Trod enc Try.prog W base sp held 22 v x ps) :
    ∃ (u : Value) (qs : List Pst), v = u ∧ postsV W u qs ∧ qs.length ≤ maxLen ∧ ∀ p ∈ qs, p.2.2.size ≤ maxLen := by
  obtain ⟨A, n, c, rfl⟩ := okWide_slice Try.underlying22 hval
  obtain ⟨fuel, hy⟩ := h
  have hy' : DataW.trod enc Try.prog W base sp held fuel 22 [.slice A n c] = some (x, ps) := hy
  rcases Go.Deep.open_slice Try.underlying22 hy' with ⟨e, _⟩ | ⟨a, len, cap, m, k, D, Pl, e, hb, hl, hm, hmm, _, hx⟩
  · simp only [List.cons.injEq, and_true, Value.slice.injEq] at e
    obtain ⟨rfl, rfl, rfl⟩ := e
    exact ⟨_, [], rfl, ⟨none, 0, rfl, fun h => by simp at h⟩, Nat.zero_le _, fun t ht => by cases ht⟩
  · simp only [List.cons.injEq, and_true, Value.slice.injEq] at e
    obtain ⟨rfl, rfl, rfl⟩ := e
    have hlm : n ≤ m := by rw [hmm]; split <;> omega
    have each : ∀ i, i < n → ∃ p : Pst, W.cell? (a.add (i * 3)) = some (.int .i64 p.1) ∧ W.cell? (a.add (i * 3 + 1)) = some (.int .i64 p.2.1) ∧ W.cell? (a.add (i * 3 + 2)) = some (.string p.2.2) ∧ p.2.2.size ≤ maxLen := by
      intro i hi
      obtain ⟨cs', h1, h2⟩ := hx i (by omega)
      rw [hc30] at h1
      obtain ⟨_, hlen, hcell⟩ := World.cells?_some h1
      obtain ⟨r, l, t, rfl, ht⟩ := post_of hlen h2
      have e0 := hcell 0 (by omega)
      have e1 := hcell 1 (by omega)
      have e2 := hcell 2 (by omega)
      rw [Go.Deep.add_add] at e0 e1 e2
      exact ⟨(r, l, t), by simpa using e0, by simpa using e1, by simpa using e2, ht⟩
    obtain ⟨q, hq⟩ := Go.Deep.choose_lt each
    refine ⟨_, (List.range n).map q, rfl, ⟨some a, c, by simp, fun h0 => ?_⟩, by simp; omega, fun p hp => ?_⟩
    · have h0' : 0 < n := by simpa using h0
      obtain ⟨b, off, spot⟩ := a
      have hspot : spot = none := by simpa [Addr.add] using World.cell?_spot (hq 0 h0').1
      subst hspot
      have hc0 := (hq 0 h0').1
      rw [Addr.add_lit] at hc0
      refine ⟨b, off, rfl, cell_lt hc0, fun i hi => ?_⟩
      have hi' : i < n := by simpa using hi
      obtain ⟨g0, g1, g2, _⟩ := hq i hi'
      rw [Addr.add_lit] at g0 g1 g2
      rw [List.getD_eq_getElem?_getD, List.getElem?_map, List.getElem?_range hi']
      exact ⟨g0, g1, g2⟩
    · obtain ⟨i, hi, rfl⟩ := List.mem_map.1 hp
      exact (hq i (by have := List.mem_range.1 hi; omega)).2.2.2
end Go.Proofs.Ytgjkflhpnppkbaa
