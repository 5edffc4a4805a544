/- A function that defers one builtin: it is made where the function returns. -/
import Derived.Defers
import Derived.WalkKit
import Derived.MapFrom
namespace Go.Proofs.Ytggiijlgdpkkfaa
open Go
/-- a builtin that was deferred, and what it leaves -/
structure Made (P : Program) (d : Deferred) (w w1 : World) : Prop where
  builtin : ∃ b ats ty ct, d.target = .builtin b ats ty ct
  run : ∃ x, (invoke d.target d.args).run P w = .ok (.value x) w1
/-- what is asked where a function leaves that may have deferred one builtin -/
def postB (P : Program) (fn : Func) (R : Ending → World → Prop) : Exit → Act → World → Prop
  | .normal, a, w | .ret, a, w => ∃ w1, (a.defers = [] ∧ w1 = w ∨ ∃ d, a.defers = [d] ∧ Made P d w w1) ∧ Leaves P fn a.tmps R [] .returning w1
  | .outgrown, _, w => R .outgrown w
  | _, _, _ => False
theorem Made.step {P : Program} {d : Deferred} {fr : Frame} {cs : List Frame} {w w1 : World} (h : Made P d w w1) (hm : fr.mode = .returning) (hd : fr.defers = [d]) :
    step P (lone fr cs w) = .next (lone { fr with defers := [] } cs w1) := by
  obtain ⟨⟨b, ats, ty, ct, ht⟩, x, hr⟩ := h
  cases d
  subst ht
  exact step_lone_go (by simp [stepG, unwind, callDeferred, hm, hd, hr])
/-- a frame that returns comes to its end -/
theorem postB_comes {P : Program} {fn : Func} {R : Ending → World → Prop} {a : Act} {w : World} (hp : postB P fn R .ret a w) {fr : Frame} (cs : List Frame) (hm : fr.mode = .returning) (hd : fr.defers = a.defers)
    (ht : fr.tmps = a.tmps) (hf : P.funcs[fr.fn]? = some fn) (hk : fr.kind = .normal) : ∃ e w' fr', R e w' ∧ Comes P (lone fr cs w) (lone fr' cs w') e ∧ fr'.fn = fr.fn ∧ fr'.leaving P w' e := by
  obtain ⟨w1, (⟨h0, rfl⟩ | ⟨d, h0, hmade⟩), hl⟩ := hp
  · exact leaves_steps [] .returning w1 fr cs hm (hd.trans h0) ht hf hk hl
  · obtain ⟨e, w', fr', hR, hc, hfn, hlv⟩ := leaves_steps [] .returning w1 { fr with defers := [] } cs hm rfl ht hf hk hl
    exact ⟨e, w', fr', hR, Comes.of_steps (.one (hmade.step hm (hd.trans h0))) hc, hfn, hlv⟩
theorem calls_of_wpB {P : Program} {f : FuncId} {fn : Func} {c : Code} {args : Array Value} {w : World} {R : Ending → World → Prop} (hf : P.funcs[f]? = some fn) (hb : fn.body = some c)
    (h : c.wp P (postB P fn R) { tmps := args ++ Array.replicate (fn.ntmps - args.size) undef, defers := [] } w) : Calls P f args w R := fun cs => by
  obtain ⟨x, a, w2, hx, hw⟩ := h { (default : Frame) with fn := f, kind := .normal } [] cs
  have hin : ({ (default : Frame) with fn := f, kind := .normal } : Frame).at { tmps := args ++ Array.replicate (fn.ntmps - args.size) undef, defers := [] } [.code c] = Frame.enter P f args .normal := by
    unfold Frame.enter Frame.at
    rw [hf]
    simp [hb]
  rw [hin] at hw
  match x, hx, hw with
  | .normal, hx, hw =>
    obtain ⟨e, w', fr', hR, hc, hfn, hlv⟩ := postB_comes hx cs (fr := { ({ (default : Frame) with fn := f, kind := .normal } : Frame).at a [] with mode := .returning }) rfl rfl rfl hf rfl
    exact ⟨e, w', fr', hR, Comes.of_steps (Steps.trans hw (.one step_end)) hc, hfn, hlv⟩
  | .ret, hx, ⟨t, hw⟩ =>
    obtain ⟨e, w', fr', hR, hc, hfn, hlv⟩ := postB_comes hx cs (fr := { ({ (default : Frame) with fn := f, kind := .normal } : Frame).at a t with mode := .returning }) rfl rfl rfl hf rfl
    exact ⟨e, w', fr', hR, Comes.of_steps hw hc, hfn, hlv⟩
  | .outgrown, hx, hw => exact ⟨.outgrown, w2, { (default : Frame) with fn := f, kind := .normal }, hx, hw.resolve_left (by simp), rfl, trivial⟩
/-- .. where nothing was deferred -/
theorem postB_none {P : Program} {fn : Func} {R : Ending → World → Prop} {a : Act} {w : World} {v : Value} (h0 : a.defers = []) (hr : (results fn a.tmps).run P w = .ok v w) (hR : R (.returned v) w) : postB P fn R .ret a w :=
  ⟨w, .inl ⟨h0, rfl⟩, v, hr, hR⟩
/-- .. where a builtin was -/
theorem postB_one {P : Program} {fn : Func} {R : Ending → World → Prop} {a : Act} {w w1 : World} {b : Builtin} {ats : Array TypeId} {ty : TypeId} {ct : Array Bool} {args : Array Value} {x v : Value}
    (h0 : a.defers = [⟨.builtin b ats ty ct, args⟩]) (hi : (invoke (.builtin b ats ty ct) args).run P w = .ok (.value x) w1) (hr : (results fn a.tmps).run P w1 = .ok v w1) (hR : R (.returned v) w1) : postB P fn R .ret a w :=
  ⟨w1, .inr ⟨_, h0, ⟨⟨b, ats, ty, ct, rfl⟩, x, hi⟩⟩, v, hr, hR⟩
end Go.Proofs.Ytggiijlgdpkkfaa
