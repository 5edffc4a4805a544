/- For every argument the law returns true, and each argument reads behind the call as it read before; the tables that its road names start as the program's text lays them (tied). -/
import Derived.Test.YtggiijlgdpkkfaaDoorTie
import Derived.Test.YtggiijlgdpkkfaaDoorCards
import Derived.Test.YtggiijlgdpkkfaaDoorLaid
import Derived.Test.YtggiijlgdpkkfaaDoorOpm
import Derived.Test.YtggiijlgdpkkfaaDoorLbk
import Derived.WalkKit
import Derived.ProofKit
import Derived.OpenShut
import Derived.OpenVars
import Derived.ShutString
import Derived.Carry
import Derived.Lay
import Derived.MakeChecks
import Derived.Stop.Joined
import Derived.SevenTiedAt
namespace Go.Proofs.YtggiijlgdpkkfaaDoor
open Go.ChangeShapes Go.WideShapes Go.ChangeAt Go.RowKit
open Go.ChangeMaps (open_string shut_string)
set_option linter.unusedVariables false
theorem exactRouteBack_own : ownKnob Tryd.prog.godebug = none := by kernel_rfl
theorem exactRouteBack_laid : laidOutB Tryd.prog = true := by kernel_rfl
theorem exactRouteBack_rowed : varsRowed Tryd.prog ["loop.example/g00254/impl.quarters"] = true := by kernel_rfl
abbrev exactRouteBackL : List (String × DataW Unit) := [("loop.example/g00254/impl.quarters", Rows.laid_loop_example_g00254_impl_quarters)]
set_option maxRecDepth 100000 in
theorem exactRouteBack_lifted (os : Os) (started : os.Started) (H : Type) (enc : TypeId × Value → H) :
    ReturnsInHanded {} Tryd.checked os 3 .any (fun w args => (Rows.fnExactRouteBackSpec.pre enc Tryd.prog Tryd.f3 [] false w args ∧ laidMetH Tryd.prog exactRouteBackL w) ∧ sizedMet enc Tryd.prog Tryd.f3 (OpenSpec.ofChange Rows.fnExactRouteBackSpec) false w args)
      (Rows.fnExactRouteBackSpec.post enc Tryd.prog Tryd.f3 false true false false) := by
  refine returnsInHanded_of_change_and (C := Tryd.checked) (X := fun w _ => laidMetH Tryd.prog exactRouteBackL w) (fun _ _ _ hh h => h.of_heap hh) exactRouteBack_own started (by kernel_rfl) Tryd.func3
    (ChangeSpec.witness_shaped (enc := enc) (C := Tryd.checked) (os := os) (X := fun w _ => laidMetH Tryd.prog exactRouteBackL w) false (World.laidAll Tryd.prog os exactRouteBackL) #[.agg #[.slice none 0 0, .slice none 0 0, .slice none 0 0, .slice none 0 0, .int .i64 0, .int .i64 0], .int .i64 0, .slice none 0 0] 8 (World.laidAll_os _ _ _)
      (World.shaped_of_ZipB (by kernel_rfl) (by kernel_rfl)) (by kernel_rfl) (by kernel_rfl) (by kernel_rfl)
      (by rw [MakeChecks.laidMetH_plain _ _ _ (by kernel_rfl)]; exact laidMet_laidAll _ (by kernel_rfl) (by kernel_rfl))) ?_
  intro W base args ds gs before hval0 hW _ _ hL _
  have hval : ∀ (j : Nat) t v, Tryd.f3.params[j]? = some t → args[j]? = some v → Value.okWide Tryd.prog W .any base t v := hval0
  have hW' := hW
  obtain ⟨p, q, hA0, hV, rfl, _, _⟩ := hW
  have hA : DataW.TrodAll enc Tryd.prog W 0 (fun _ => true) true Tryd.f3.params.toList args.toList ds p := hA0
  rw [Tryd.params3] at hA hval
  obtain ⟨v0, vs0, d0, ds0, p0, q0, hargs, rfl, rfl, h0, r0⟩ := trodAll_cons hA
  obtain ⟨v1, vs1, d1, ds1, p1, q1, rfl, rfl, rfl, h1, r1⟩ := trodAll_cons r0
  obtain ⟨v2, vs2, d2, ds2, p2, q2, rfl, rfl, rfl, h2, r2⟩ := trodAll_cons r1
  obtain ⟨rfl, rfl, rfl⟩ := trodAll_nil r2
  obtain rfl : args = #[v0, v1, v2] := by cases args; simp_all
  obtain ⟨tq, frq, hq⟩ := of_laid hL
  obtain ⟨gv, tv, csv, fuelv, dv, pv, rfl, _⟩ := trodVars_one hV
  have k0 := h0
  obtain ⟨xs0, hv0, hf0⟩ := open_mix (hval 0 25 v0 rfl rfl) h0
  obtain ⟨a1, rfl, rfl, rfl, w1⟩ := open_int Tryd.underlying3 (hval 1 3 v1 rfl rfl) h1
  have k2 := h2
  obtain ⟨A2, n2, c2, rfl⟩ := okWide_slice Tryd.underlying22 (hval 2 22 v2 rfl rfl)
  obtain ⟨ts2, hs2, hl2, ht2⟩ := strs_of_trod h2
  clear hA0 hval0
  have l0 : ∀ x ∈ p0, x.block < W.heap.size := fun x hx => by simpa using hW'.lt x (by simp [hx])
  have l2 : ∀ x ∈ p2, x.block < W.heap.size := fun x hx => by simpa using hW'.lt x (by simp [hx])
  refine (law_back W v0 xs0 hv0 hf0 a1 _ ts2 hs2 hl2 ht2 tq frq hq).mono fun e W' ⟨he, hb⟩ => ?_
  subst he
  exact ⟨_, rfl, _, _, _, [], _, q, hW', trodAll_mk1 (shut_bool Tryd.underlying4 _), (trodAll_cons_mk (Below.trod exactRouteBack_laid (by kernel_rfl) (of_decide_eq_true (by kernel_rfl)) k0 hb l0) (trodAll_cons_mk (shut_int Tryd.underlying3 w1) (trodAll_cons_mk (Below.trod exactRouteBack_laid (by kernel_rfl) (of_decide_eq_true (by kernel_rfl)) k2 hb l2) trodAll_mk0))), Below.trodVars exactRouteBack_laid hb exactRouteBack_rowed hV, hb.frame _, fun h => by cases h⟩
theorem exactRouteBack_row : Rows.FnExactRouteBackSaid :=
  OpenClaim.holds_of_wide 3 Tryd.f3 rfl rfl rfl rfl rfl rfl rfl ⟨rfl, rfl, rfl, rfl, rfl⟩ rfl rfl rfl rfl rfl (by kernel_rfl) Tryd.func3 (by kernel_rfl)
    (of_decide_eq_true (by kernel_rfl)) (by unfold Func.isWrapper; first | (rw [if_pos (by decide +kernel)]; kernel_rfl) | (rw [if_neg (by decide +kernel)]; exact ⟨rfl, rfl⟩))
    (fun os started H enc _ => exactRouteBack_lifted os started H enc)
theorem exactRouteBack : Rows.FnExactRouteBackCardSaid :=
  Claim7.holds_tied_plain_at .later [] [.data] true (true, "fc562ef4f73f568d379cc4cb00bd80b472842f71e69684a2d085f7637cb5b65d") false exactRouteBack_row (fun _ h => by cases h) (by kernel_rfl) (fun _ h => by cases h) fnExactRouteBack_row_tie rfl ⟨rfl, rfl⟩ (by kernel_rfl) rfl
    (fun f fn hf hfn => by
      obtain rfl : f = 3 := Option.some.inj ((show Tryd.prog.funcNamed "loop.example/g00254/laws.FnExactRouteBack" = some 3 by kernel_rfl).symm.trans hf) |>.symm
      obtain rfl : fn = Tryd.f3 := (Option.some.inj (Tryd.func3.symm.trans hfn)).symm
      exact ⟨by kernel_rfl, fun j t ht => by
        rw [Tryd.params3] at ht
        have hm : t ∈ [25, 3, 22] := by simpa using Array.mem_of_getElem? ht
        have hall : ([25, 3, 22].all fun u => !Tryd.prog.wantsStandIn u) = true := by kernel_rfl
        exact (show Tryd.prog.wantsStandIn t = false by simpa using List.all_eq_true.1 hall t hm)⟩)
    (by kernel_rfl)
#print axioms exactRouteBack
end Go.Proofs.YtggiijlgdpkkfaaDoor
