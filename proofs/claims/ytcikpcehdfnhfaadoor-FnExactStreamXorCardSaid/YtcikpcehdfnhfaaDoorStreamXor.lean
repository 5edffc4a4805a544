/- For every argument the law returns true, and each argument reads behind the call as it read before; the tables that its road names start as the program's text lays them (tied). -/
import Derived.Test.YtcikpcehdfnhfaaDoorTie
import Derived.Test.YtcikpcehdfnhfaaDoorCards
import Derived.Test.YtcikpcehdfnhfaaDoorLaid
import Derived.Test.YtcikpcehdfnhfaaDoorSxArg
import Derived.WalkKit
import Derived.ProofKit
import Derived.OpenShut
import Derived.OpenVars
import Derived.ShutString
import Derived.Carry
import Derived.Lay
import Derived.MakeChecks
import Derived.Stop.Joined
import Derived.SevenTiedAt
namespace Go.Proofs.YtcikpcehdfnhfaaDoor
open Go.ChangeShapes Go.WideShapes Go.ChangeAt Go.RowKit
open Go.ChangeMaps (open_string shut_string)
set_option linter.unusedVariables false
theorem streamXor_holds_own : ownKnob Tryd.prog.godebug = none := by kernel_rfl
theorem streamXor_holds_laid : laidOutB Tryd.prog = true := by kernel_rfl
theorem streamXor_holds_rowed : varsRowed Tryd.prog ["loop.example/g00254/impl.quarters"] = true := by kernel_rfl
abbrev streamXor_holdsL : List (String × DataW Unit) := [("loop.example/g00254/impl.quarters", Rows.laid_loop_example_g00254_impl_quarters)]
set_option maxRecDepth 100000 in
theorem streamXor_holds_lifted (os : Os) (started : os.Started) (H : Type) (enc : TypeId × Value → H) :
    ReturnsInHanded {} Tryd.checked os 5 .any (fun w args => (Rows.fnExactStreamXorSpec.pre enc Tryd.prog Tryd.f5 [] false w args ∧ laidMetH Tryd.prog streamXor_holdsL w) ∧ sizedMet enc Tryd.prog Tryd.f5 (OpenSpec.ofChange Rows.fnExactStreamXorSpec) false w args)
      (Rows.fnExactStreamXorSpec.post enc Tryd.prog Tryd.f5 false true false false) := by
  refine returnsInHanded_of_change_and (C := Tryd.checked) (X := fun w _ => laidMetH Tryd.prog streamXor_holdsL w) (fun _ _ _ hh h => h.of_heap hh) streamXor_holds_own started (by kernel_rfl) Tryd.func5
    (ChangeSpec.witness_shaped (enc := enc) (C := Tryd.checked) (os := os) (X := fun w _ => laidMetH Tryd.prog streamXor_holdsL w) false (World.laidAll Tryd.prog os streamXor_holdsL) #[.string ByteArray.empty, .string ByteArray.empty, .int .i64 0, .slice none 0 0] 8 (World.laidAll_os _ _ _)
      (World.shaped_of_ZipB (by kernel_rfl) (by kernel_rfl)) (by kernel_rfl) (by kernel_rfl) (by kernel_rfl)
      (by rw [MakeChecks.laidMetH_plain _ _ _ (by kernel_rfl)]; exact laidMet_laidAll _ (by kernel_rfl) (by kernel_rfl))) ?_
  intro W base args ds gs before hval0 hW _ _ hL _
  have hval : ∀ (j : Nat) t v, Tryd.f5.params[j]? = some t → args[j]? = some v → Value.okWide Tryd.prog W .any base t v := hval0
  have hW' := hW
  obtain ⟨p, q, hA0, hV, rfl, _, _⟩ := hW
  have hA : DataW.TrodAll enc Tryd.prog W 0 (fun _ => true) true Tryd.f5.params.toList args.toList ds p := hA0
  rw [Tryd.params5] at hA hval
  obtain ⟨v0, vs0, d0, ds0, p0, q0, hargs, rfl, rfl, h0, r0⟩ := trodAll_cons hA
  obtain ⟨v1, vs1, d1, ds1, p1, q1, rfl, rfl, rfl, h1, r1⟩ := trodAll_cons r0
  obtain ⟨v2, vs2, d2, ds2, p2, q2, rfl, rfl, rfl, h2, r2⟩ := trodAll_cons r1
  obtain ⟨v3, vs3, d3, ds3, p3, q3, rfl, rfl, rfl, h3, r3⟩ := trodAll_cons r2
  obtain ⟨rfl, rfl, rfl⟩ := trodAll_nil r3
  obtain rfl : args = #[v0, v1, v2, v3] := by cases args; simp_all
  obtain ⟨tq, frq, hq⟩ := of_laid hL
  obtain ⟨gv, tv, csv, fuelv, dv, pv, rfl, _⟩ := trodVars_one hV
  obtain ⟨a0, rfl, rfl, rfl, w0⟩ := open_string Tryd.underlying9 (hval 0 9 v0 rfl rfl) h0
  obtain ⟨a1, rfl, rfl, rfl, w1⟩ := open_string Tryd.underlying9 (hval 1 9 v1 rfl rfl) h1
  obtain ⟨a2, rfl, rfl, rfl, w2⟩ := open_int Tryd.underlying3 (hval 2 3 v2 rfl rfl) h2
  have k3 := h3
  obtain ⟨A3, n3, c3, rfl⟩ := okWide_slice Tryd.underlying22 (hval 3 22 v3 rfl rfl)
  have g3 : n3 ≤ maxLen ∧ codeAt W A3 n3 := code_of_trod h3
  clear hA0 hval0
  have l3 : ∀ x ∈ p3, x.block < W.heap.size := fun x hx => by simpa using hW'.lt x (by simp [hx])
  refine (sx_law_at a0 a1 a2 A3 n3 c3 W g3.2 tq frq hq).mono fun e W' ⟨he, hb⟩ => ?_
  subst he
  exact ⟨_, rfl, _, _, _, [], _, q, hW', trodAll_mk1 (shut_bool Tryd.underlying4 _), (trodAll_cons_mk (shut_string Tryd.underlying9 w0) (trodAll_cons_mk (shut_string Tryd.underlying9 w1) (trodAll_cons_mk (shut_int Tryd.underlying3 w2) (trodAll_cons_mk (Below.trod streamXor_holds_laid (by kernel_rfl) (of_decide_eq_true (by kernel_rfl)) k3 hb l3) trodAll_mk0)))), Below.trodVars streamXor_holds_laid hb streamXor_holds_rowed hV, hb.frame _, fun h => by cases h⟩
theorem streamXor_holds_row : Rows.FnExactStreamXorSaid :=
  OpenClaim.holds_of_wide 5 Tryd.f5 rfl rfl rfl rfl rfl rfl rfl ⟨rfl, rfl, rfl, rfl, rfl⟩ rfl rfl rfl rfl rfl (by kernel_rfl) Tryd.func5 (by kernel_rfl)
    (of_decide_eq_true (by kernel_rfl)) (by unfold Func.isWrapper; first | (rw [if_pos (by decide +kernel)]; kernel_rfl) | (rw [if_neg (by decide +kernel)]; exact ⟨rfl, rfl⟩))
    (fun os started H enc _ => streamXor_holds_lifted os started H enc)
theorem streamXor_holds : Rows.FnExactStreamXorCardSaid :=
  Claim7.holds_tied_plain_at .later [] [.data] true (true, "811ffb377deba6cd3954460b0884d1cae59bbdb264f67a5f8817edc5330a533f") false streamXor_holds_row (fun _ h => by cases h) (by kernel_rfl) (fun _ h => by cases h) fnExactStreamXor_row_tie rfl ⟨rfl, rfl⟩ (by kernel_rfl) rfl
    (fun f fn hf hfn => by
      obtain rfl : f = 5 := Option.some.inj ((show Tryd.prog.funcNamed "loop.example/g00254/laws.FnExactStreamXor" = some 5 by kernel_rfl).symm.trans hf) |>.symm
      obtain rfl : fn = Tryd.f5 := (Option.some.inj (Tryd.func5.symm.trans hfn)).symm
      exact ⟨by kernel_rfl, fun j t ht => by
        rw [Tryd.params5] at ht
        have hm : t ∈ [9, 9, 3, 22] := by simpa using Array.mem_of_getElem? ht
        have hall : ([9, 9, 3, 22].all fun u => !Tryd.prog.wantsStandIn u) = true := by kernel_rfl
        exact (show Tryd.prog.wantsStandIn t = false by simpa using List.all_eq_true.1 hall t hm)⟩)
    (by kernel_rfl)
#print axioms streamXor_holds
end Go.Proofs.YtcikpcehdfnhfaaDoor
