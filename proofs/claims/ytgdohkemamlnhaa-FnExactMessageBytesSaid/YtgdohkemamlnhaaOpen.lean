/- An argument that is a message, opened. -/
import Derived.Test.YtgdohkemamlnhaaMsg
import Derived.ProofKit
import Derived.OpenShut
import Derived.ShutString
namespace Go.Proofs.Ytgdohkemamlnhaa
open Go.ChangeShapes Go.WideShapes Go.ChangeAt Go.RowKit
theorem open_msg {H : Type} {enc : TypeId × Value → H} {W : World} {base : Nat} {sp : Nat → Bool} {held : Bool} {rc : Reach} {b0 : Nat} {v : Value} {x : DataW H} {ps : List MemPlace}
    (hval : Value.okWide Try.prog W rc b0 23 v) (h : DataW.Trod enc Try.prog W base sp held 23 v x ps) :
    ∃ (r s a : Int) (d b : ByteArray), v = msgV r s a d b ∧ d.size ≤ maxLen ∧ b.size ≤ maxLen := by
  have hc23 : Try.prog.cellsOf 23 = 5 := by kernel_rfl
  have hc3 : Try.prog.cellsOf 3 = 1 := by kernel_rfl
  have hc9 : Try.prog.cellsOf 9 = 1 := by kernel_rfl
  obtain ⟨cs, rfl, hs⟩ := okWide_struct Try.underlying23 hval
  rw [hc23] at hs
  obtain ⟨fuel, hy⟩ := h
  obtain ⟨l⟩ := cs
  match l, hs with
  | [x0, x1, x2, x3, x4], _ =>
    have hy' : DataW.trod enc Try.prog W base sp held fuel 23 [x0, x1, x2, x3, x4] = some (x, ps) := hy
    obtain ⟨ys, m, _, hx, _, hl, hf⟩ := Go.DataW.trod_struct Try.underlying23 hy'
    match ys, hl with
    | [y0, y1, y2, y3, y4], _ =>
      have hy0 := hf 0 _ rfl
      have hy1 := hf 1 _ rfl
      have hy2 := hf 2 _ rfl
      have hy3 := hf 3 _ rfl
      have hy4 := hf 4 _ rfl
      simp [hc3, hc9] at hy0 hy1 hy2 hy3 hy4
      obtain ⟨r, e0, _, _⟩ := Go.DataW.trod_int Try.underlying3 hy0
      obtain ⟨s, e1, _, _⟩ := Go.DataW.trod_int Try.underlying3 hy1
      obtain ⟨a, e2, _, _⟩ := Go.DataW.trod_int Try.underlying3 hy2
      obtain ⟨d, e3, _, hd⟩ := Go.DataW.trod_string Try.underlying9 hy3
      obtain ⟨b, e4, _, hb⟩ := Go.DataW.trod_string Try.underlying9 hy4
      simp at e0 e1 e2 e3 e4
      subst e0 e1 e2 e3 e4
      exact ⟨r, s, a, d, b, rfl, hd, hb⟩
end Go.Proofs.Ytgdohkemamlnhaa
