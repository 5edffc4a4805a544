/- For every argument the law returns true, and each argument reads behind the call as it read before; no condition. -/
import Derived.Test.YtncplefjokbbjaaSharedA
import Derived.Test.YtncplefjokbbjaaOpDbl
import Derived.Test.YtncplefjokbbjaaRows
import Derived.Test.YtncplefjokbbjaaHead
import Derived.Test.YtncplefjokbbjaaCurveAll
import Derived.WalkKit
import Derived.ProofKit
import Derived.OpenShut
import Derived.ShutString
import Derived.Carry
/- The law that doubling and going up may be exchanged, walked. -/
namespace Go.Proofs.Ytncplefjokbbjaa
open Go.RowKit
set_option maxHeartbeats 4000000
set_option maxRecDepth 20000
/-- what any number is modulo the prime, as a text -/
theorem mod_nat (v : Int) : ∃ n : Nat, v % pInt = (n : Int) ∧ n < pN := by
  have h0 : 0 ≤ v % pInt := Int.emod_nonneg _ (by unfold pInt; decide)
  have h1 : v % pInt < pInt := Int.emod_lt_of_pos _ (by unfold pInt; decide)
  exact ⟨(v % pInt).toNat, by omega, by unfold pN; unfold pInt at h0 h1 ⊢; omega⟩
theorem enc_mod_num (v : Int) : (numN (enc (v % pInt)) : Int) = v % pInt := by
  obtain ⟨n, e, hn⟩ := mod_nat v
  rw [e, numN_enc n (by unfold pN at hn; omega)]
theorem enc_mod_size (v : Int) : (enc (v % pInt)).size = 32 := by
  obtain ⟨n, e, _⟩ := mod_nat v
  rw [e, enc_size]
theorem enc_mod_ok (v : Int) : okB (enc (v % pInt)) = true := by
  obtain ⟨n, e, hn⟩ := mod_nat v
  unfold okB
  rw [decide_eq_true_iff, e, numN_enc n (by unfold pN at hn; omega)]
  exact ⟨enc_size n, hn⟩
theorem enc_mod_low (v : Int) : lowN (enc (v % pInt)) = v % pInt := by
  have h := enc_mod_num v
  have h1 : v % pInt < pInt := Int.emod_lt_of_pos _ (by unfold pInt; decide)
  have h0 : 0 ≤ v % pInt := Int.emod_nonneg _ (by unfold pInt; decide)
  unfold lowN
  rw [h]
  unfold pInt at h0 h1 ⊢
  exact Int.emod_eq_of_lt h0 (by omega)
theorem cs_mod (v : Int) : cs (v % pInt) = cs v := by
  rw [cs_eq, pp_eq, Int.emod_emod_of_dvd _ (Int.dvd_refl _)]
theorem dbl_eq (u : Int) : dblN u = dblM u := rfl
theorem double_texts (k m : ByteArray) (hk : k.size = 32) (hm : m.size = 32) : multB k (enc (dblN (numN (multB m nineB)) % pInt)) = enc (dblN (numN (multB k (multB m nineB))) % pInt) := by
  have e1 : ((numN (multB m nineB) : Nat) : Int) = lowN (multB m nineB) := by rw [mult_low, mult_num]
  have e2 : ((numN (multB k (multB m nineB)) : Nat) : Int) = lowN (multB k (multB m nineB)) := by rw [mult_low, mult_num]
  have hu : cs (lowN (multB m nineB)) = cs (up 9 (numN (clampB m))) := by rw [mult_cs, nine_num]
  have hv : cs (lowN (enc (dblN (lowN (multB m nineB)) % pInt))) = cs (dblM (lowN (multB m nineB))) := by rw [enc_mod_low, cs_mod, dbl_eq]
  have hx : cs (lowN (multB k (multB m nineB))) = cs (up (lowN (multB m nineB)) (numN (clampB k))) := mult_cs _ _
  have h := double_one (clamp_clamped k hk) (clamp_clamped m hm) hu hv hx
  rw [e1, e2]
  rw [pp_eq] at h
  rw [dbl_eq (lowN (multB k (multB m nineB))), ← h]
  rfl
theorem dblV_ok (s : ByteArray) (hs : s.size = 32) (ho : okB s = true) : DblV s = .tuple #[.string (enc (dblN (numN s) % pInt)), .int .i64 0] := by
  rw [DblV, long_f (by omega), if_neg (by simp), if_pos ho]
theorem multV_32 (a b : ByteArray) (ha : a.size = 32) (hb : b.size = 32) : MultV a b = .tuple #[.string (multB a b), .int .i64 0] := by
  rw [MultV, long_f (by omega), long_f (by omega), if_neg (by simp), if_pos ⟨ha, hb⟩]
theorem law_Double (w : World) (A : Option Addr) (n cap : Nat) (hn : n ≤ maxLen) (hA : codeAt w A n) (B : Option Addr) (m cbp : Nat) (hm : m ≤ maxLen) (hB : codeAt w B m) :
    Calls Try.prog 7 #[.slice A n cap, .slice B m cbp] w fun e w' => e = .returned (.bool true) ∧ Below w.heap.size w w' := by
  have hn' := hn
  have hm' := hm
  unfold maxLen at hn' hm'
  by_cases h1 : n ≤ 1048576
  · by_cases h2 : m ≤ 1048576
    · have HA := hide hA
      have HB := hide hB
      have Hn := hide hn
      have Hm := hide hm
      clear hA hB hn hm
      go_enter Try.func7, Try.ntmps7
      go_wp2_with fail
      refine (blobOf_any 32 A n cap _ (by omega) (unhide Hn) (unhide HA)).mono ?_
      rintro e w1 ⟨a, rfl, ha, hb1⟩
      have b1 := hide hb1
      have HB1 := hide (codeAt_below (unhide HB) hb1)
      clear hb1 HB HA
      go_wp2_with fail
      refine (blobOf_any 32 B m cbp _ (by omega) (unhide Hm) (unhide HB1)).mono ?_
      rintro e w2 ⟨b, rfl, hb, hb2⟩
      have b2 := hide ((unhide b1).trans (hb2.mono (unhide b1).size))
      clear hb2 HB1 b1
      have P := hide (pubV_32 b hb)
      have su := mult_size b nineB
      have D := hide (dblV_ok (multB b nineB) su (enc_mod_ok _))
      have D0 := hide (show (multB b nineB).size ≤ maxLen by rw [su]; unfold maxLen; omega)
      have M := hide (multV_32 a (enc (dblN (numN (multB b nineB)) % pInt)) ha (enc_mod_size _))
      have U := hide (multV_32 a (multB b nineB) ha su)
      have R := hide (dblV_ok (multB a (multB b nineB)) (mult_size _ _) (enc_mod_ok _))
      have E := hide (double_texts a b ha hb)
      clear ha hb su
      go_wp2_with fail
      refine (spec_Pub b _).mono ?_
      rintro e w3 ⟨rfl, hb3⟩
      rw [unhide P]
      have b3 := hide ((unhide b2).trans (hb3.mono (unhide b2).size))
      clear hb3 b2
      go_wp2_with fail
      refine (impl_Dbl (multB b nineB) _).mono ?_
      rintro e w4 ⟨rfl, hb4⟩
      rw [unhide D]
      have b4 := hide ((unhide b3).trans (hb4.mono (unhide b3).size))
      clear hb4 b3
      go_wp2_with fail
      refine (spec_Dbl (multB b nineB) (unhide D0) _).mono ?_
      rintro e w5 ⟨rfl, hb5⟩
      rw [unhide D]
      have b5 := hide ((unhide b4).trans (hb5.mono (unhide b4).size))
      clear hb5 b4
      go_wp2_with fail
      refine (impl_Mult a (enc (dblN (numN (multB b nineB)) % pInt)) _).mono ?_
      rintro e w6 ⟨rfl, hb6⟩
      rw [unhide M, unhide E]
      have b6 := hide ((unhide b5).trans (hb6.mono (unhide b5).size))
      clear hb6 b5
      go_wp2_with fail
      refine (impl_Mult a (multB b nineB) _).mono ?_
      rintro e w7 ⟨rfl, hb7⟩
      rw [unhide U]
      have b7 := hide ((unhide b6).trans (hb7.mono (unhide b6).size))
      clear hb7 b6
      go_wp2_with fail
      refine (impl_Dbl (multB a (multB b nineB)) _).mono ?_
      rintro e w8 ⟨rfl, hb8⟩
      rw [unhide R]
      have b8 := hide ((unhide b7).trans (hb8.mono (unhide b7).size))
      clear hb8 b7
      go_wp2
      go_ret
      exact ⟨rfl, unhide b8⟩
    · go_enter Try.func7, Try.ntmps7
      go_wp2
      go_ret
      exact ⟨rfl, Below.refl _ _⟩
  · go_enter Try.func7, Try.ntmps7
    go_wp2
    go_ret
    exact ⟨rfl, Below.refl _ _⟩
end Go.Proofs.Ytncplefjokbbjaa
/- For every argument the law returns true, and each argument reads behind the call as it read before; no condition. -/
namespace Go.Proofs.Ytncplefjokbbjaa
open Go.ChangeShapes Go.WideShapes Go.ChangeAt Go.RowKit
open Go.ChangeMaps (open_string shut_string)
set_option linter.unusedVariables false
theorem double_holds_own : ownKnob Try.prog.godebug = none := by kernel_rfl
theorem double_holds_laid : laidOutB Try.prog = true := by kernel_rfl
set_option maxRecDepth 100000 in
theorem double_holds_lifted (os : Os) (started : os.Started) (H : Type) (enc : TypeId × Value → H) :
    ReturnsInHanded {} Try.checked os 7 .any (Rows.fnDoubleSpec.pre6 enc Try.prog Try.f7 Rows.fnDoubleRow.domain false) (Rows.fnDoubleSpec.post enc Try.prog Try.f7 false true false false) := by
  refine returnsInHanded_of_change (C := Try.checked) double_holds_own started (by kernel_rfl) Try.func7
    (ChangeSpec.witness6 (enc := enc) (C := Try.checked) false ⟨#[], #[.slice none 0 0, .slice none 0 0], []⟩ 8 (by kernel_rfl) (by kernel_rfl) (by kernel_rfl) (by kernel_rfl)) ?_
  intro W base args ds gs before hval0 hW hcnd _
  have hval : ∀ (j : Nat) t v, Try.f7.params[j]? = some t → args[j]? = some v → Value.okWide Try.prog W .any base t v := hval0
  have hW' := hW
  obtain ⟨p, q, hA0, hV, rfl, hfz, hnd⟩ := hW
  have hA : DataW.TrodAll enc Try.prog W 0 (fun _ => true) true Try.f7.params.toList args.toList ds p := hA0
  rw [Try.params7] at hA hval
  obtain ⟨v0, vs0, d0, ds0, p0, q0, hargs, rfl, rfl, h0, r0⟩ := trodAll_cons hA
  obtain ⟨v1, vs1, d1, ds1, p1, q1, rfl, rfl, rfl, h1, r1⟩ := trodAll_cons r0
  obtain ⟨rfl, rfl, rfl⟩ := trodAll_nil r1
  obtain rfl : args = #[v0, v1] := by cases args; simp_all
  obtain ⟨rfl, rfl⟩ := trodVars_none hV
  have k0 := h0
  obtain ⟨A0, n0, c0, rfl⟩ := okWide_slice Try.underlying30 (hval 0 30 v0 rfl rfl)
  have g0 : n0 ≤ maxLen ∧ codeAt W A0 n0 := code_of_trod h0
  have k1 := h1
  obtain ⟨A1, n1, c1, rfl⟩ := okWide_slice Try.underlying30 (hval 1 30 v1 rfl rfl)
  have g1 : n1 ≤ maxLen ∧ codeAt W A1 n1 := code_of_trod h1
  clear hA0 hval0
  simp only [List.append_nil] at hW'
  have l0 : ∀ x ∈ p0, x.block < W.heap.size := fun x hx => by simpa using hW'.lt x (by simp [hx])
  have l1 : ∀ x ∈ p1, x.block < W.heap.size := fun x hx => by simpa using hW'.lt x (by simp [hx])
  refine (law_Double W A0 n0 c0 g0.1 g0.2 A1 n1 c1 g1.1 g1.2).mono fun e W' ⟨he, hb⟩ => ?_
  subst he
  exact ⟨_, rfl, _, _, _, [], _, [], hW', trodAll_mk1 (shut_bool Try.underlying4 _), (trodAll_cons_mk (Below.trod double_holds_laid (by kernel_rfl) (of_decide_eq_true (by kernel_rfl)) k0 hb l0) (trodAll_cons_mk (Below.trod double_holds_laid (by kernel_rfl) (of_decide_eq_true (by kernel_rfl)) k1 hb l1) trodAll_mk0)), rfl, hb.frame _, fun h => by cases h⟩
theorem double_holds_closed : joinedFacts Try.prog 7 Try.f7 Rows.fnDoubleSpec Rows.fnDoubleRow = true := by
  unfold joinedFacts
  simp only [Bool.and_eq_true]
  repeat' apply And.intro
  iterate 25 (as_aux_lemma => kernel_rfl)
  · exact head_enter
  · rw [head_final]; kernel_rfl
  · rw [head_make]; kernel_rfl
  all_goals (as_aux_lemma => kernel_rfl)
theorem double_holds : Rows.FnDoubleSaid :=
  OpenClaim.holds_of_wide 7 Try.f7 rfl rfl rfl rfl rfl rfl rfl ⟨rfl, rfl, rfl, rfl, rfl⟩ rfl rfl rfl rfl rfl (by kernel_rfl) Try.func7 double_holds_closed
    (of_decide_eq_true (by kernel_rfl)) (by unfold Func.isWrapper; first | (rw [if_pos (by decide +kernel)]; kernel_rfl) | (rw [if_neg (by decide +kernel)]; exact ⟨rfl, rfl⟩))
    (fun os started H enc _ => double_holds_lifted os started H enc)
#print axioms double_holds
end Go.Proofs.Ytncplefjokbbjaa
