/- For every argument the law returns true, and each argument reads behind the call as it read before; the tables that its road names start as the program's text lays them (tied). -/
import Derived.Test.YtncplefjokbbjaaDoorTie
import Derived.Test.YtncplefjokbbjaaDoorCards
import Derived.Test.YtncplefjokbbjaaDoorLaid
import Derived.Test.YtncplefjokbbjaaDoorOrArg
import Derived.WalkKit
import Derived.ProofKit
import Derived.OpenShut
import Derived.OpenVars
import Derived.ShutString
import Derived.Carry
import Derived.Lay
import Derived.MakeChecks
import Derived.Stop.Joined
import Derived.SevenTiedAt
namespace Go.Proofs.YtncplefjokbbjaaDoor
open Go.ChangeShapes Go.WideShapes Go.ChangeAt Go.RowKit
open Go.ChangeMaps (open_string shut_string)
set_option linter.unusedVariables false
theorem openReply_holds_own : ownKnob Tryd.prog.godebug = none := by kernel_rfl
theorem openReply_holds_laid : laidOutB Tryd.prog = true := by kernel_rfl
theorem openReply_holds_rowed : varsRowed Tryd.prog ["loop.example/g00254/impl.quarters"] = true := by kernel_rfl
abbrev openReply_holdsL : List (String × DataW Unit) := [("loop.example/g00254/impl.quarters", Rows.laid_loop_example_g00254_impl_quarters)]
set_option maxRecDepth 100000 in
theorem openReply_holds_lifted (os : Os) (started : os.Started) (H : Type) (enc : TypeId × Value → H) :
    ReturnsInHanded {} Tryd.checked os 4 .any (fun w args => (Rows.fnExactOpenReplySpec.pre enc Tryd.prog Tryd.f4 [] false w args ∧ laidMetH Tryd.prog openReply_holdsL w) ∧ sizedMet enc Tryd.prog Tryd.f4 (OpenSpec.ofChange Rows.fnExactOpenReplySpec) false w args)
      (Rows.fnExactOpenReplySpec.post enc Tryd.prog Tryd.f4 false true false false) := by
  refine returnsInHanded_of_change_and (C := Tryd.checked) (X := fun w _ => laidMetH Tryd.prog openReply_holdsL w) (fun _ _ _ hh h => h.of_heap hh) openReply_holds_own started (by kernel_rfl) Tryd.func4
    (ChangeSpec.witness_shaped (enc := enc) (C := Tryd.checked) (os := os) (X := fun w _ => laidMetH Tryd.prog openReply_holdsL w) false (World.laidAll Tryd.prog os openReply_holdsL) #[.slice none 0 0, .slice none 0 0] 8 (World.laidAll_os _ _ _)
      (World.shaped_of_ZipB (by kernel_rfl) (by kernel_rfl)) (by kernel_rfl) (by kernel_rfl) (by kernel_rfl)
      (by rw [MakeChecks.laidMetH_plain _ _ _ (by kernel_rfl)]; exact laidMet_laidAll _ (by kernel_rfl) (by kernel_rfl))) ?_
  intro W base args ds gs before hval0 hW _ _ hL _
  have hval : ∀ (j : Nat) t v, Tryd.f4.params[j]? = some t → args[j]? = some v → Value.okWide Tryd.prog W .any base t v := hval0
  have hW' := hW
  obtain ⟨p, q, hA0, hV, rfl, _, _⟩ := hW
  have hA : DataW.TrodAll enc Tryd.prog W 0 (fun _ => true) true Tryd.f4.params.toList args.toList ds p := hA0
  rw [Tryd.params4] at hA hval
  obtain ⟨v0, vs0, d0, ds0, p0, q0, hargs, rfl, rfl, h0, r0⟩ := trodAll_cons hA
  obtain ⟨v1, vs1, d1, ds1, p1, q1, rfl, rfl, rfl, h1, r1⟩ := trodAll_cons r0
  obtain ⟨rfl, rfl, rfl⟩ := trodAll_nil r1
  obtain rfl : args = #[v0, v1] := by cases args; simp_all
  obtain ⟨tq, frq, hq⟩ := of_laid hL
  obtain ⟨gv, tv, csv, fuelv, dv, pv, rfl, _⟩ := trodVars_one hV
  have k0 := h0
  obtain ⟨A0, n0, c0, rfl⟩ := okWide_slice Tryd.underlying29 (hval 0 29 v0 rfl rfl)
  obtain ⟨ts0, hs0, hl0, ht0⟩ := strs_of_trod h0
  have k1 := h1
  obtain ⟨A1, n1, c1, rfl⟩ := okWide_slice Tryd.underlying22 (hval 1 22 v1 rfl rfl)
  have g1 : n1 ≤ maxLen ∧ codeAt W A1 n1 := code_of_trod h1
  clear hA0 hval0
  have l0 : ∀ x ∈ p0, x.block < W.heap.size := fun x hx => by simpa using hW'.lt x (by simp [hx])
  have l1 : ∀ x ∈ p1, x.block < W.heap.size := fun x hx => by simpa using hW'.lt x (by simp [hx])
  refine (or_law_at ts0 _ A1 n1 c1 W hs0 hl0 ht0 g1.2 tq frq hq).mono fun e W' ⟨he, hb⟩ => ?_
  subst he
  exact ⟨_, rfl, _, _, _, [], _, q, hW', trodAll_mk1 (shut_bool Tryd.underlying4 _), (trodAll_cons_mk (Below.trod openReply_holds_laid (by kernel_rfl) (of_decide_eq_true (by kernel_rfl)) k0 hb l0) (trodAll_cons_mk (Below.trod openReply_holds_laid (by kernel_rfl) (of_decide_eq_true (by kernel_rfl)) k1 hb l1) trodAll_mk0)), Below.trodVars openReply_holds_laid hb openReply_holds_rowed hV, hb.frame _, fun h => by cases h⟩
theorem openReply_holds_row : Rows.FnExactOpenReplySaid :=
  OpenClaim.holds_of_wide 4 Tryd.f4 rfl rfl rfl rfl rfl rfl rfl ⟨rfl, rfl, rfl, rfl, rfl⟩ rfl rfl rfl rfl rfl (by kernel_rfl) Tryd.func4 (by kernel_rfl)
    (of_decide_eq_true (by kernel_rfl)) (by unfold Func.isWrapper; first | (rw [if_pos (by decide +kernel)]; kernel_rfl) | (rw [if_neg (by decide +kernel)]; exact ⟨rfl, rfl⟩))
    (fun os started H enc _ => openReply_holds_lifted os started H enc)
theorem openReply_holds : Rows.FnExactOpenReplyCardSaid :=
  Claim7.holds_tied_plain_at .later [] [.data] true (true, "0c19416c5f5d2b1fed320d9eeb77821922bca8bd790b99f1e7ffc618637e00f2") false openReply_holds_row (fun _ h => by cases h) (by kernel_rfl) (fun _ h => by cases h) fnExactOpenReply_row_tie rfl ⟨rfl, rfl⟩ (by kernel_rfl) rfl
    (fun f fn hf hfn => by
      obtain rfl : f = 4 := Option.some.inj ((show Tryd.prog.funcNamed "loop.example/g00254/laws.FnExactOpenReply" = some 4 by kernel_rfl).symm.trans hf) |>.symm
      obtain rfl : fn = Tryd.f4 := (Option.some.inj (Tryd.func4.symm.trans hfn)).symm
      exact ⟨by kernel_rfl, fun j t ht => by
        rw [Tryd.params4] at ht
        have hm : t ∈ [29, 22] := by simpa using Array.mem_of_getElem? ht
        have hall : ([29, 22].all fun u => !Tryd.prog.wantsStandIn u) = true := by kernel_rfl
        exact (show Tryd.prog.wantsStandIn t = false by simpa using List.all_eq_true.1 hall t hm)⟩)
    (by kernel_rfl)
#print axioms openReply_holds
end Go.Proofs.YtncplefjokbbjaaDoor
