/- An argument that is a peer, or a frame, opened. -/
import Derived.Test.YthonnlifgdnacaaOpenS
import Derived.Test.YthonnlifgdnacaaFrm
import Derived.Lib.SmallJoins
import Derived.ProofKit
import Derived.OpenShut
import Derived.ShutString
namespace Go.Proofs.Ythonnlifgdnacaa
open Go.ChangeShapes Go.WideShapes Go.ChangeAt Go.RowKit
set_option maxRecDepth 20000
theorem hc48 : Try.prog.cellsOf 48 = 4 := by kernel_rfl
theorem hc55 : Try.prog.cellsOf 55 = 4 := by kernel_rfl
theorem hc3 : Try.prog.cellsOf 3 = 1 := by kernel_rfl
theorem hc4 : Try.prog.cellsOf 4 = 1 := by kernel_rfl
theorem hc9b : Try.prog.cellsOf 9 = 1 := by kernel_rfl
theorem hc31 : Try.prog.cellsOf 31 = 1 := by kernel_rfl
theorem open_peer {H : Type} {enc : TypeId × Value → H} {W : World} {base : Nat} {sp : Nat → Bool} {held : Bool} {rc : Reach} {b0 : Nat} {v : Value} {x : DataW H} {ps : List MemPlace}
    (hval : Value.okWide Try.prog W rc b0 48 v) (h : DataW.Trod enc Try.prog W base sp held 48 v x ps) : ∃ p : Pe, peV W v p ∧ peFits p := by
  obtain ⟨cs, rfl, hs⟩ := okWide_struct Try.underlying48 hval
  rw [hc48] at hs
  obtain ⟨fuel, hy⟩ := h
  obtain ⟨l⟩ := cs
  match l, hs with
  | [x0, x1, x2, x3], _ =>
    have hy' : DataW.trod enc Try.prog W base sp held fuel 48 [x0, x1, x2, x3] = some (x, ps) := hy
    obtain ⟨y0, y1, y2, y3, n, _, _, h0, h1, h2, h3⟩ := Go.Joins.trod_struct4 Try.underlying48 hy'
    simp [hc3, hc31] at h0 h1 h2 h3
    obtain ⟨s, e1, _, _⟩ := Go.DataW.trod_int Try.underlying3 h1
    obtain ⟨e, e2, _, _⟩ := Go.DataW.trod_int Try.underlying3 h2
    simp at e1 e2
    subst e1 e2
    obtain ⟨q, hq, hl, hm⟩ := strs_of h0
    obtain ⟨i, hi, hl', hm'⟩ := strs_of h3
    exact ⟨⟨q, s, e, i⟩, ⟨x0, x3, rfl, hq, hi⟩, hl, hl', hm, hm'⟩
theorem open_frame {H : Type} {enc : TypeId × Value → H} {W : World} {base : Nat} {sp : Nat → Bool} {held : Bool} {rc : Reach} {b0 : Nat} {v : Value} {x : DataW H} {ps : List MemPlace}
    (hval : Value.okWide Try.prog W rc b0 55 v) (h : DataW.Trod enc Try.prog W base sp held 55 v x ps) : ∃ f : Fr, v = frV f ∧ f.b.size ≤ maxLen := by
  obtain ⟨cs, rfl, hs⟩ := okWide_struct Try.underlying55 hval
  rw [hc55] at hs
  obtain ⟨fuel, hy⟩ := h
  obtain ⟨l⟩ := cs
  match l, hs with
  | [x0, x1, x2, x3], _ =>
    have hy' : DataW.trod enc Try.prog W base sp held fuel 55 [x0, x1, x2, x3] = some (x, ps) := hy
    obtain ⟨y0, y1, y2, y3, n, _, _, h0, h1, h2, h3⟩ := Go.Joins.trod_struct4 Try.underlying55 hy'
    simp [hc3, hc4, hc9b] at h0 h1 h2 h3
    obtain ⟨s, e0, _, _⟩ := Go.DataW.trod_int Try.underlying3 h0
    obtain ⟨a, e1, _, _⟩ := Go.DataW.trod_int Try.underlying3 h1
    obtain ⟨t, e2, _⟩ := Go.DataW.trod_bool Try.underlying4 h2
    obtain ⟨b, e3, _, hb⟩ := Go.DataW.trod_string Try.underlying9 h3
    simp at e0 e1 e2 e3
    subst e0 e1 e2 e3
    exact ⟨⟨s, a, t, b⟩, rfl, hb⟩
end Go.Proofs.Ythonnlifgdnacaa
