/- A function that defers one builtin: it is made where the function returns. -/
import Derived.Defers
import Derived.WalkKit
import Derived.MapFrom
namespace Go.Proofs.Ytggiijlgdpkkfaa
open Go
/-- what is asked where a function leaves that may have deferred one builtin -/
def postB (P : Program) (fn : Func) (R : Ending → World → Prop) : Exit → Act → World → Prop
  | .normal, a, w | .ret, a, w => (a.defers = [] ∧ ∃ v, (results fn a.tmps).run P w = .ok v w ∧ R (.returned v) w) ∨
      ∃ b ats ty cs args x w1 v, a.defers = [⟨.builtin b ats ty cs, args⟩] ∧ (invoke (.builtin b ats ty cs) args).run P w = .ok (.value x) w1 ∧ (results fn a.tmps).run P w1 = .ok v w1 ∧ R (.returned v) w1
  | .outgrown, _, w => R .outgrown w
  | _, _, _ => False
theorem step_deferB {P : Program} {fr : Frame} {cs : List Frame} {w w1 : World} {b : Builtin} {ats : Array TypeId} {ty : TypeId} {ct : Array Bool} {args : Array Value} {x : Value}
    (hm : fr.mode = .returning) (hd : fr.defers = [⟨.builtin b ats ty ct, args⟩]) (hi : (invoke (.builtin b ats ty ct) args).run P w = .ok (.value x) w1) :
    step P (lone fr cs w) = .next (lone { fr with defers := [] } cs w1) := by
  refine step_lone_go ?_
  simp [stepG, unwind, callDeferred, hm, hd, hi]
theorem calls_of_wpB {P : Program} {f : FuncId} {fn : Func} {c : Code} {args : Array Value} {w : World} {R : Ending → World → Prop}
    (hf : P.funcs[f]? = some fn) (hb : fn.body = some c)
    (h : c.wp P (postB P fn R) { tmps := args ++ Array.replicate (fn.ntmps - args.size) undef, defers := [] } w) : Calls P f args w R := by
  intro cs
  let b : Frame := { (default : Frame) with fn := f, kind := .normal }
  have henter : Frame.enter P f args .normal =
      b.at { tmps := args ++ Array.replicate (fn.ntmps - args.size) undef, defers := [] } [.code c] := by
    simp [Frame.enter, Frame.at, hf, hb, b]
  obtain ⟨e, a', w', hq, harr⟩ := h b [] cs
  rw [← henter] at harr
  have key : ∀ fr : Frame, fr.mode = .returning → fr.defers = a'.defers → fr.tmps = a'.tmps → fr.fn = f → fr.kind = .normal → postB P fn R .ret a' w' →
      ∃ e w'' fr', R e w'' ∧ Comes P (lone fr cs w') (lone fr' cs w'') e ∧ fr'.fn = f ∧ fr'.leaving P w'' e := by
    intro fr hm hd ht hfn hk hp
    rcases hp with ⟨h0, v, hr, hR⟩ | ⟨b', ats, ty, ct, ag, x, w1, v, h0, hi, hr, hR⟩
    · exact ⟨.returned v, w', fr, hR, Steps.refl P _, hfn, hm, hd.trans h0, hk, fn, by rw [hfn]; exact hf, ht ▸ hr⟩
    · refine ⟨.returned v, w1, { fr with defers := [] }, hR, .one (step_deferB hm (hd.trans h0) hi), hfn, hm, rfl, hk, fn, by rw [hfn]; exact hf, ht ▸ hr⟩
  cases e with
  | normal =>
    obtain ⟨e', w'', fr', hR, hs, hfn, hl⟩ := key { b.at a' [] with mode := .returning } rfl rfl rfl rfl rfl hq
    exact ⟨e', w'', fr', hR, Comes.of_steps (Steps.trans harr (.one step_end)) hs, hfn, hl⟩
  | ret =>
    obtain ⟨todo, hs₀⟩ := harr
    obtain ⟨e', w'', fr', hR, hs, hfn, hl⟩ := key { b.at a' todo with mode := .returning } rfl rfl rfl rfl rfl hq
    exact ⟨e', w'', fr', hR, Comes.of_steps hs₀ hs, hfn, hl⟩
  | panic chain => exact hq.elim
  | exit id => exact hq.elim
  | goto l => exact hq.elim
  | outgrown => exact ⟨.outgrown, w', b, hq, harr.resolve_left (by simp [b]), rfl, trivial⟩
end Go.Proofs.Ytggiijlgdpkkfaa
