/- The law of PeerSay, walked. -/
import Derived.Test.YthonnlifgdnacaaSyb
namespace Go.Proofs.Ythonnlifgdnacaa
open Go.RowKit
set_option maxHeartbeats 4000000
set_option maxRecDepth 20000
theorem say_fewR (p : Pe) (t : ByteArray) (_hn : peFew p) : peFew (sayR p t).1 := by
  unfold sayR
  split
  · exact ⟨by decide, by decide⟩
  · split
    · next h => exact say_few h
    · exact ⟨by decide, by decide⟩
theorem law_say (w : World) (v : Value) (p : Pe) (hv : peV w v p) (hf : peFits p) (t : ByteArray) (ht : t.size ≤ maxLen) :
    Calls Try.prog 7 #[v, .string t] w fun e w' => e = .returned (.bool true) ∧ Below w.heap.size w w' := by
  obtain ⟨q, i, rfl, hq, hi⟩ := hv
  have hv : peV w (peA q p.s p.e i) p := ⟨q, i, rfl, hq, hi⟩
  have h6 := hide (fun W (h : peV W (peA q p.s p.e i) p) => sz25 (peA q p.s p.e i) p 1048576 W h hf (by omega) (by omega))
  have HV := hide hv
  have HTO : Hid (peFew p → ∀ W, peV W (peA q p.s p.e i) p → Calls Try.prog 27 #[peA q p.s p.e i] W fun e w' => ∃ r, e = .returned r ∧ peO W.heap.size w'.heap.size w' r p ∧ Below W.heap.size W w') := hide fun hn W hu => to27 _ p W hu hn
  have HEQ : Hid (peFew p → ∀ u u' W, peV W u p → peV W u' p → Calls Try.prog 28 #[u, u'] W fun e w' => e = .returned (.bool true) ∧ Below W.heap.size W w') := hide fun hn u u' W hu hu' => eq28 u u' p W hu hu' hn
  have HSP : Hid (peFew p → ∀ u W, peV W u p → Calls Try.prog 22 #[u, .string t] W fun e w' => outV W (sayR p t).1 (sayR p t).2 e w') := hide fun hn u W hu => say22 u p t W hu hn ht
  have HIM : Hid (peFew p → ∀ u W, peV W u p → Calls Try.prog 21 #[u, .string t] W fun e w' => outO W (sayR p t).1 (sayR p t).2 e w') := hide fun hn u W hu => say21 u p t W hu hn ht
  have HMX : Hid (peFew p → ∃ k : Int, 0 ≤ k ∧ ∀ lo hi u W, peO lo hi W u p → hi ≤ W.heap.size → Calls Try.prog 29 #[u, .int .i64 1] W fun e w' => e = .returned (.int .i64 k) ∧ peO lo hi w' u (markP p 1) ∧ TouchR lo hi W w') := hide fun hn => ⟨_, Int.natCast_nonneg _, fun lo hi u W hu hh => mark29 lo hi u p 1 W hu hn (by omega) hh⟩
  have hlen := hide (fun hn : peFew p => say_fewR p t hn)
  generalize (sayR p t) = rr at *
  obtain ⟨y, c⟩ := rr
  dsimp only at *
  have HEY : Hid (peFew y → ∀ u u' W, peV W u y → peV W u' y → Calls Try.prog 28 #[u, u'] W fun e w' => e = .returned (.bool true) ∧ Below W.heap.size W w') := hide fun hn u u' W hu hu' => eq28 u u' y W hu hu' hn
  obtain ⟨km, hkm⟩ : ∃ k : Nat, k = 1 + y.q.length + y.i.length := ⟨_, rfl⟩
  have HMY : Hid (peFew y → ∀ lo hi u W, peO lo hi W u y → hi ≤ W.heap.size → Calls Try.prog 29 #[u, .int .i64 1] W fun e w' => e = .returned (.int .i64 (km : Int)) ∧ peO lo hi w' u (markP y 1) ∧ TouchR lo hi W w') := hide fun hn lo hi u W hu hh => by rw [hkm]; exact mark29 lo hi u y 1 W hu hn (by omega) hh
  have HHY : Hid (peFew y → ∀ u W, peV W u (markP y 1) → Calls Try.prog 30 #[u, .int .i64 1] W fun e w' => e = .returned (.int .i64 (km : Int)) ∧ Below W.heap.size W w') := hide fun hn u W hu => by rw [hkm]; exact held30 u y 1 W hu hn (by omega)
  have k0 : (0 : Int) ≤ (km : Int) := Int.natCast_nonneg _
  clear hkm
  have tz0 : (0 : Int) ≤ (t.size : Int) := by omega
  have tz1 : (t.size : Int) ≤ 9223372036854775807 := by unfold maxLen at ht; omega
  clear ht
  by_cases hbig : (1048576 : Int) < (t.size : Int)
  · go_enter Try.func7, Try.ntmps7
    go_wp2
    go_ret
    exact ⟨rfl, bl_al (Below.refl _ _)⟩
  have hle : (t.size : Int) ≤ 1048576 := by omega
  clear hbig
  have B0 : Below w.heap.size w (w.alloc (.cells #[q, .int .i64 p.s, .int .i64 p.e, i] 48)) := bl_al (Below.refl _ _)
  have HB := hide B0
  have C := pc_new w q p.s p.e i 48
  have HC := hide C
  have SZ : Hid ((w.alloc (.cells #[q, .int .i64 p.s, .int .i64 p.e, i] 48)).heap.size = w.heap.size + 1) := hide (by simp)
  clear hf hv hq hi B0
  obtain ⟨_, c0, c1, c2, c3⟩ := C
  go_enter Try.func7, Try.ntmps7
  go_wp2_with fail
  generalize w.alloc (.cells #[q, .int .i64 p.s, .int .i64 p.e, i] 48) = w0 at *
  refine (unhide h6 w0 ((unhide HV).below (unhide HB))).mono ?_
  rintro e w1 ⟨z, rfl, hz, b1⟩
  have B_1 := hide (bl_st b1 (unhide HB))
  have Q_2 := hide ((unhide HC).below b1)
  have Z3 := hide b1.size
  clear HB HC
  have HZ := hide hz
  clear hz b1 h6 c0 c1 c2 c3
  by_cases hneg : z < 0
  · go_wp2
    go_ret
    exact ⟨rfl, unhide B_1⟩
  have HN : Hid (peFew p) := hide (by have := Or.resolve_left (unhide HZ) hneg; exact ⟨by omega, by omega⟩)
  have hge : 0 ≤ z := by omega
  clear hneg HZ
  have HMX2 := hide (unhide HMX (unhide HN))
  have HY := hide (unhide hlen (unhide HN))
  clear HMX hlen
  obtain ⟨_, c4, c5, c6, c7⟩ := unhide Q_2
  go_wp2_with fail
  refine (unhide HTO (unhide HN) w1 ((unhide HV).below (unhide B_1))).mono ?_
  rintro e w2 ⟨u1, rfl, o2, b2⟩
  have U2 := hide o2.pe
  clear o2
  clear c4 c5 c6 c7
  have B_8 := hide (bl_st b2 (unhide B_1))
  have Q_9 := hide ((unhide Q_2).below b2)
  have Z10 := hide b2.size
  clear B_1 Q_2
  clear b2
  go_wp2_with fail
  refine (unhide HSP (unhide HN) _ w2 (unhide U2)).mono ?_
  rintro e w3 ⟨r3, rfl, o3, b3⟩
  obtain ⟨D11, D12, D13, D14, hre⟩ := o3.slices
  subst hre
  have B_15 := hide (bl_st b3 (unhide B_8))
  have Q_16 := hide ((unhide Q_9).below b3)
  have Z17 := hide b3.size
  clear B_8 Q_9
  have OW0 := hide o3
  have OWB0 := hide (Below.refl w3.heap.size w3)
  clear o3 b3 U2
  have ba : Below w3.heap.size w3 (w3.alloc (.cells #[.slice D11 y.q.length D12, .int .i64 y.s, .int .i64 y.e, .slice D13 y.i.length D14] 33)) := bl_al (Below.refl _ _)
  have C19 := hide (pc_new w3 (.slice D11 y.q.length D12) y.s y.e (.slice D13 y.i.length D14) 33)
  have Z20 : Hid ((w3.alloc (.cells #[.slice D11 y.q.length D12, .int .i64 y.s, .int .i64 y.e, .slice D13 y.i.length D14] 33)).heap.size = w3.heap.size + 1) := hide (by simp)
  have B_21 := hide (bl_st ba (unhide B_15))
  have Q_22 := hide ((unhide Q_16).below ba)
  have OWB_23 := hide (bl_st ba (unhide OWB0))
  have Z24 := hide ba.size
  clear B_15 Q_16 OWB0
  clear ba
  obtain ⟨_, c25, c26, c27, c28⟩ := unhide C19
  obtain ⟨_, c29, c30, c31, c32⟩ := unhide Q_22
  go_wp2_with fail
  generalize w3.alloc (.cells #[.slice D11 y.q.length D12, .int .i64 y.s, .int .i64 y.e, .slice D13 y.i.length D14] 33) = v18 at *
  refine (unhide HTO (unhide HN) v18 ((unhide HV).below (unhide B_21))).mono ?_
  rintro e w4 ⟨u, rfl, o4, b4⟩
  obtain ⟨D33, D34, D35, D36, hre⟩ := o4.pe.slices
  subst hre
  clear c25 c26 c27 c28 c29 c30 c31 c32
  have B_37 := hide (bl_st b4 (unhide B_21))
  have Q_38 := hide ((unhide Q_22).below b4)
  have OWB_39 := hide (bl_st b4 (unhide OWB_23))
  have WC_40 := hide ((unhide C19).below b4)
  have Z41 := hide b4.size
  clear B_21 Q_22 OWB_23 C19
  have OX0 := hide o4
  clear o4 b4
  have ba : Below w4.heap.size w4 (w4.alloc (.cells #[.slice D33 p.q.length D34, .int .i64 p.s, .int .i64 p.e, .slice D35 p.i.length D36] 33)) := bl_al (Below.refl _ _)
  have C43 := hide (pc_new w4 (.slice D33 p.q.length D34) p.s p.e (.slice D35 p.i.length D36) 33)
  have Z44 : Hid ((w4.alloc (.cells #[.slice D33 p.q.length D34, .int .i64 p.s, .int .i64 p.e, .slice D35 p.i.length D36] 33)).heap.size = w4.heap.size + 1) := hide (by simp)
  have B_45 := hide (bl_st ba (unhide B_37))
  have Q_46 := hide ((unhide Q_38).below ba)
  have OWB_47 := hide (bl_st ba (unhide OWB_39))
  have WC_48 := hide ((unhide WC_40).below ba)
  have OX_49 := hide ((unhide OX0).below ba)
  have Z50 := hide ba.size
  clear B_37 Q_38 OWB_39 WC_40 OX0
  clear ba
  obtain ⟨_, c51, c52, c53, c54⟩ := unhide C43
  go_wp2_with fail
  generalize w4.alloc (.cells #[.slice D33 p.q.length D34, .int .i64 p.s, .int .i64 p.e, .slice D35 p.i.length D36] 33) = v42 at *
  refine (unhide HIM (unhide HN) _ v42 (unhide OX_49).pe).mono ?_
  rintro e w5 ⟨r5, rfl, o5, b5⟩
  obtain ⟨D55, D56, D57, D58, hre⟩ := o5.pe.slices
  subst hre
  clear c51 c52 c53 c54
  have B_59 := hide (bl_st b5 (unhide B_45))
  have Q_60 := hide ((unhide Q_46).below b5)
  have OWB_61 := hide (bl_st b5 (unhide OWB_47))
  have WC_62 := hide ((unhide WC_48).below b5)
  have OX_63 := hide ((unhide OX_49).below b5)
  have XC_64 := hide ((unhide C43).below b5)
  have Z65 := hide b5.size
  clear B_45 Q_46 OWB_47 WC_48 OX_49 C43
  have OG0 := hide o5
  clear o5 b5
  have ba : Below w5.heap.size w5 (w5.alloc (.cells #[.slice D55 y.q.length D56, .int .i64 y.s, .int .i64 y.e, .slice D57 y.i.length D58] 33)) := bl_al (Below.refl _ _)
  have C67 := hide (pc_new w5 (.slice D55 y.q.length D56) y.s y.e (.slice D57 y.i.length D58) 33)
  have Z68 : Hid ((w5.alloc (.cells #[.slice D55 y.q.length D56, .int .i64 y.s, .int .i64 y.e, .slice D57 y.i.length D58] 33)).heap.size = w5.heap.size + 1) := hide (by simp)
  have B_69 := hide (bl_st ba (unhide B_59))
  have Q_70 := hide ((unhide Q_60).below ba)
  have OWB_71 := hide (bl_st ba (unhide OWB_61))
  have WC_72 := hide ((unhide WC_62).below ba)
  have OX_73 := hide ((unhide OX_63).below ba)
  have XC_74 := hide ((unhide XC_64).below ba)
  have OG_75 := hide ((unhide OG0).below ba)
  have Z76 := hide ba.size
  clear B_59 Q_60 OWB_61 WC_62 OX_63 XC_64 OG0
  clear ba
  obtain ⟨_, c77, c78, c79, c80⟩ := unhide C67
  obtain ⟨_, c81, c82, c83, c84⟩ := unhide WC_72
  go_wp2_with fail
  generalize w5.alloc (.cells #[.slice D55 y.q.length D56, .int .i64 y.s, .int .i64 y.e, .slice D57 y.i.length D58] 33) = v66 at *
  refine (unhide HEY (unhide HY) _ _ v66 (unhide OG_75).pe ((unhide OW0).below (unhide OWB_71))).mono ?_
  rintro e w6 ⟨rfl, b6⟩
  clear c77 c78 c79 c80 c81 c82 c83 c84
  have B_85 := hide (bl_st b6 (unhide B_69))
  have Q_86 := hide ((unhide Q_70).below b6)
  have OWB_87 := hide (bl_st b6 (unhide OWB_71))
  have WC_88 := hide ((unhide WC_72).below b6)
  have OX_89 := hide ((unhide OX_73).below b6)
  have XC_90 := hide ((unhide XC_74).below b6)
  have OG_91 := hide ((unhide OG_75).below b6)
  have GC_92 := hide ((unhide C67).below b6)
  have Z93 := hide b6.size
  clear B_69 Q_70 OWB_71 WC_72 OX_73 XC_74 OG_75 C67
  clear b6
  go_wp2
  refine wp_region_held (S := fun W' => Below w6.heap.size w6 W') (by kernel_rfl) ?_
  have hS0 : Below w6.heap.size w6 { w6 with drawn := w6.drawn + 1 } := below_drewN (Below.refl _ _) 1
  refine wpAnyH_take (i := 0) (oi := { dst := some 48, op := Op.load 33 (Operand.tmp 8), type := 33, pos := "exact.go:4213", after := #[], guard := none }) (v := ?_) rfl (by kernel_rfl) (by kernel_rfl) (by kernel_rfl) (fun _ _ _ h => h) (Or.inl ⟨by rfl, ?_⟩) hS0 ?_
  rotate_left
  · intro W hSw
    obtain ⟨_, c0, c1, c2, c3⟩ := (unhide Q_86).below hSw
    obtain ⟨_, d0, d1, d2, d3⟩ := (unhide XC_90).below hSw
    go_simp
    try with_reducible rfl
  simp only [Act.put, List.setIfInBounds_toArray, List.set_cons_zero, List.set_cons_succ]
  refine wpAnyH_take (i := 1) (oi := { dst := some 49, op := Op.load 48 (Operand.tmp 2), type := 48, pos := "exact.go:4213", after := #[], guard := none }) (v := ?_) rfl (by kernel_rfl) (by kernel_rfl) (by kernel_rfl) (fun _ _ _ h => h) (Or.inl ⟨by rfl, ?_⟩) hS0 ?_
  rotate_left
  · intro W hSw
    obtain ⟨_, c0, c1, c2, c3⟩ := (unhide Q_86).below hSw
    obtain ⟨_, d0, d1, d2, d3⟩ := (unhide XC_90).below hSw
    go_simp
    try with_reducible rfl
  simp only [Act.put, List.setIfInBounds_toArray, List.set_cons_zero, List.set_cons_succ]
  refine wpAnyH_one (i := 2) (by kernel_rfl) ?_
  refine wpOp_step (o := { dst := some 50, op := Op.call { callee := Callee.value (Operand.func 27), args := #[Operand.tmp 49], argTypes := #[48] }, type := 33, pos := "exact.go:4213", after := #[{ on := 1, ground := Ground.data }], guard := none }) rfl fun K' hK => step_enterW (by rfl) 27 #[peA q p.s p.e i] (by go_simp) ((unhide HTO (unhide HN) _ (((unhide HV).below (unhide B_85)).below hS0)).mono ?_)
  rintro e w7 ⟨u7, rfl, o7, b7⟩
  have s7 := bl_st b7 hS0
  have U7 := hide ((unhide OX_89).below s7).pe
  have V7 := hide o7.pe
  clear b7 o7
  refine ⟨_, rfl, hK _ _ ⟨s7, ?_⟩⟩
  simp only [Act.put, List.setIfInBounds_toArray, List.set_cons_zero, List.set_cons_succ]
  refine wpAnyH_one (i := 3) (by kernel_rfl) ?_
  refine wpOp_step (o := { dst := some 51, op := Op.call { callee := Callee.value (Operand.func 28), args := #[Operand.tmp 48, Operand.tmp 50], argTypes := #[33, 33] }, type := 4, pos := "exact.go:4213", after := #[{ on := 0, ground := Ground.data }, { on := 2, ground := Ground.data }, { on := 2, ground := Ground.chain }], guard := none }) rfl fun K' hK => step_enterW (by rfl) 28 #[peA (.slice D33 p.q.length D34) p.s p.e (.slice D35 p.i.length D36), u7] (by go_simp) ((unhide HEQ (unhide HN) _ _ _ (unhide U7) (unhide V7)).mono ?_)
  rintro e w8 ⟨rfl, b8⟩
  have s8 := bl_st b8 s7
  clear b8
  refine ⟨_, rfl, hK _ _ ⟨s8, ?_⟩⟩
  simp only [Act.put, List.setIfInBounds_toArray, List.set_cons_zero, List.set_cons_succ]
  refine wpAnyH_take (i := 4) (oi := { dst := some 52, op := Op.unOp UnOp.not 4 (Operand.tmp 51), type := 4, pos := "exact.go:4213", after := #[{ on := 3, ground := Ground.data }], guard := none }) (v := ?_) rfl (by kernel_rfl) (by kernel_rfl) (by kernel_rfl) (fun _ _ _ h => h) (Or.inl ⟨by rfl, ?_⟩) s8 ?_
  rotate_left
  · intro W hSw
    go_simp
    try with_reducible rfl
  simp only [Act.put, List.setIfInBounds_toArray, List.set_cons_zero, List.set_cons_succ]
  refine wpAnyH_done (by kernel_rfl) ?_ _
  have B_94 := hide (bl_st s8 (unhide B_85))
  have Q_95 := hide ((unhide Q_86).below s8)
  have OWB_96 := hide (bl_st s8 (unhide OWB_87))
  have WC_97 := hide ((unhide WC_88).below s8)
  have OX_98 := hide ((unhide OX_89).below s8)
  have XC_99 := hide ((unhide XC_90).below s8)
  have OG_100 := hide ((unhide OG_91).below s8)
  have GC_101 := hide ((unhide GC_92).below s8)
  have Z102 := hide s8.size
  clear B_85 Q_86 OWB_87 WC_88 OX_89 XC_90 OG_91 GC_92
  clear s8 s7 hS0 U7 V7
  obtain ⟨kx, kx0, hmx⟩ := unhide HMX2
  have HMX3 := hide hmx
  clear HMX2 hmx
  obtain ⟨_, c103, c104, c105, c106⟩ := unhide XC_99
  go_wp2_with fail
  refine (unhide HMX3 _ _ _ w8 (unhide OX_98) (by have := unhide SZ; have := unhide Z3; have := unhide Z10; have := unhide Z17; have := unhide Z24; have := unhide Z20; have := unhide Z41; have := unhide Z50; have := unhide Z44; have := unhide Z65; have := unhide Z76; have := unhide Z68; have := unhide Z93; have := unhide Z102; omega)).mono ?_
  rintro e w9 ⟨rfl, o9, t9⟩
  clear c103 c104 c105 c106
  clear o9
  have B_107 := hide (belowR (unhide B_94) t9 (by have := unhide SZ; have := unhide Z3; have := unhide Z10; have := unhide Z17; have := unhide Z24; have := unhide Z20; have := unhide Z41; have := unhide Z50; have := unhide Z44; have := unhide Z65; have := unhide Z76; have := unhide Z68; have := unhide Z93; have := unhide Z102; omega) (by have := unhide SZ; have := unhide Z3; have := unhide Z10; have := unhide Z17; have := unhide Z24; have := unhide Z20; have := unhide Z41; have := unhide Z50; have := unhide Z44; have := unhide Z65; have := unhide Z76; have := unhide Z68; have := unhide Z93; have := unhide Z102; omega))
  have Q_108 := hide ((unhide Q_95).touchR t9 (by have := unhide SZ; have := unhide Z3; have := unhide Z10; have := unhide Z17; have := unhide Z24; have := unhide Z20; have := unhide Z41; have := unhide Z50; have := unhide Z44; have := unhide Z65; have := unhide Z76; have := unhide Z68; have := unhide Z93; have := unhide Z102; omega))
  have OWB_109 := hide (belowR (unhide OWB_96) t9 (by have := unhide SZ; have := unhide Z3; have := unhide Z10; have := unhide Z17; have := unhide Z24; have := unhide Z20; have := unhide Z41; have := unhide Z50; have := unhide Z44; have := unhide Z65; have := unhide Z76; have := unhide Z68; have := unhide Z93; have := unhide Z102; omega) (by have := unhide SZ; have := unhide Z3; have := unhide Z10; have := unhide Z17; have := unhide Z24; have := unhide Z20; have := unhide Z41; have := unhide Z50; have := unhide Z44; have := unhide Z65; have := unhide Z76; have := unhide Z68; have := unhide Z93; have := unhide Z102; omega))
  have WC_110 := hide ((unhide WC_97).touchR t9 (by have := unhide SZ; have := unhide Z3; have := unhide Z10; have := unhide Z17; have := unhide Z24; have := unhide Z20; have := unhide Z41; have := unhide Z50; have := unhide Z44; have := unhide Z65; have := unhide Z76; have := unhide Z68; have := unhide Z93; have := unhide Z102; omega))
  have XC_111 := hide ((unhide XC_99).touchR t9 (by have := unhide SZ; have := unhide Z3; have := unhide Z10; have := unhide Z17; have := unhide Z24; have := unhide Z20; have := unhide Z41; have := unhide Z50; have := unhide Z44; have := unhide Z65; have := unhide Z76; have := unhide Z68; have := unhide Z93; have := unhide Z102; omega))
  have OG_112 := hide ((unhide OG_100).touchR t9 (by have := unhide SZ; have := unhide Z3; have := unhide Z10; have := unhide Z17; have := unhide Z24; have := unhide Z20; have := unhide Z41; have := unhide Z50; have := unhide Z44; have := unhide Z65; have := unhide Z76; have := unhide Z68; have := unhide Z93; have := unhide Z102; omega))
  have GC_113 := hide ((unhide GC_101).touchR t9 (by have := unhide SZ; have := unhide Z3; have := unhide Z10; have := unhide Z17; have := unhide Z24; have := unhide Z20; have := unhide Z41; have := unhide Z50; have := unhide Z44; have := unhide Z65; have := unhide Z76; have := unhide Z68; have := unhide Z93; have := unhide Z102; omega))
  have Z114 := hide t9.size
  clear B_94 Q_95 OWB_96 WC_97 XC_99 OG_100 GC_101
  clear t9
  obtain ⟨_, c115, c116, c117, c118⟩ := unhide GC_113
  obtain ⟨_, c119, c120, c121, c122⟩ := unhide WC_110
  go_wp2_with fail
  refine (unhide HEY (unhide HY) _ _ w9 (unhide OG_112).pe ((unhide OW0).below (unhide OWB_109))).mono ?_
  rintro e w10 ⟨rfl, b10⟩
  clear c115 c116 c117 c118 c119 c120 c121 c122
  have B_123 := hide (bl_st b10 (unhide B_107))
  have Q_124 := hide ((unhide Q_108).below b10)
  have OWB_125 := hide (bl_st b10 (unhide OWB_109))
  have WC_126 := hide ((unhide WC_110).below b10)
  have XC_127 := hide ((unhide XC_111).below b10)
  have OG_128 := hide ((unhide OG_112).below b10)
  have GC_129 := hide ((unhide GC_113).below b10)
  have Z130 := hide b10.size
  clear B_107 Q_108 OWB_109 WC_110 XC_111 OG_112 GC_113
  clear b10
  obtain ⟨_, c131, c132, c133, c134⟩ := unhide GC_129
  go_wp2_with fail
  refine (unhide HMY (unhide HY) _ _ _ w10 (unhide OG_128) (by have := unhide SZ; have := unhide Z3; have := unhide Z10; have := unhide Z17; have := unhide Z24; have := unhide Z20; have := unhide Z41; have := unhide Z50; have := unhide Z44; have := unhide Z65; have := unhide Z76; have := unhide Z68; have := unhide Z93; have := unhide Z102; have := unhide Z114; have := unhide Z130; omega)).mono ?_
  rintro e w11 ⟨rfl, o11, t11⟩
  clear c131 c132 c133 c134
  have B_135 := hide (belowR (unhide B_123) t11 (by have := unhide SZ; have := unhide Z3; have := unhide Z10; have := unhide Z17; have := unhide Z24; have := unhide Z20; have := unhide Z41; have := unhide Z50; have := unhide Z44; have := unhide Z65; have := unhide Z76; have := unhide Z68; have := unhide Z93; have := unhide Z102; have := unhide Z114; have := unhide Z130; omega) (by have := unhide SZ; have := unhide Z3; have := unhide Z10; have := unhide Z17; have := unhide Z24; have := unhide Z20; have := unhide Z41; have := unhide Z50; have := unhide Z44; have := unhide Z65; have := unhide Z76; have := unhide Z68; have := unhide Z93; have := unhide Z102; have := unhide Z114; have := unhide Z130; omega))
  have Q_136 := hide ((unhide Q_124).touchR t11 (by have := unhide SZ; have := unhide Z3; have := unhide Z10; have := unhide Z17; have := unhide Z24; have := unhide Z20; have := unhide Z41; have := unhide Z50; have := unhide Z44; have := unhide Z65; have := unhide Z76; have := unhide Z68; have := unhide Z93; have := unhide Z102; have := unhide Z114; have := unhide Z130; omega))
  have OWB_137 := hide (belowR (unhide OWB_125) t11 (by have := unhide SZ; have := unhide Z3; have := unhide Z10; have := unhide Z17; have := unhide Z24; have := unhide Z20; have := unhide Z41; have := unhide Z50; have := unhide Z44; have := unhide Z65; have := unhide Z76; have := unhide Z68; have := unhide Z93; have := unhide Z102; have := unhide Z114; have := unhide Z130; omega) (by have := unhide SZ; have := unhide Z3; have := unhide Z10; have := unhide Z17; have := unhide Z24; have := unhide Z20; have := unhide Z41; have := unhide Z50; have := unhide Z44; have := unhide Z65; have := unhide Z76; have := unhide Z68; have := unhide Z93; have := unhide Z102; have := unhide Z114; have := unhide Z130; omega))
  have WC_138 := hide ((unhide WC_126).touchR t11 (by have := unhide SZ; have := unhide Z3; have := unhide Z10; have := unhide Z17; have := unhide Z24; have := unhide Z20; have := unhide Z41; have := unhide Z50; have := unhide Z44; have := unhide Z65; have := unhide Z76; have := unhide Z68; have := unhide Z93; have := unhide Z102; have := unhide Z114; have := unhide Z130; omega))
  have XC_139 := hide ((unhide XC_127).touchR t11 (by have := unhide SZ; have := unhide Z3; have := unhide Z10; have := unhide Z17; have := unhide Z24; have := unhide Z20; have := unhide Z41; have := unhide Z50; have := unhide Z44; have := unhide Z65; have := unhide Z76; have := unhide Z68; have := unhide Z93; have := unhide Z102; have := unhide Z114; have := unhide Z130; omega))
  have GC_140 := hide ((unhide GC_129).touchR t11 (by have := unhide SZ; have := unhide Z3; have := unhide Z10; have := unhide Z17; have := unhide Z24; have := unhide Z20; have := unhide Z41; have := unhide Z50; have := unhide Z44; have := unhide Z65; have := unhide Z76; have := unhide Z68; have := unhide Z93; have := unhide Z102; have := unhide Z114; have := unhide Z130; omega))
  have Z141 := hide t11.size
  clear B_123 Q_124 OWB_125 WC_126 XC_127 GC_129
  have OG11 := hide o11
  clear o11 t11
  obtain ⟨_, c142, c143, c144, c145⟩ := unhide GC_140
  go_wp2_with fail
  refine (unhide HHY (unhide HY) _ w11 (unhide OG11).pe).mono ?_
  rintro e w12 ⟨rfl, b12⟩
  clear c142 c143 c144 c145
  have B_146 := hide (bl_st b12 (unhide B_135))
  have Q_147 := hide ((unhide Q_136).below b12)
  have OWB_148 := hide (bl_st b12 (unhide OWB_137))
  have WC_149 := hide ((unhide WC_138).below b12)
  have XC_150 := hide ((unhide XC_139).below b12)
  have GC_151 := hide ((unhide GC_140).below b12)
  have OG_152 := hide ((unhide OG11).below b12)
  have Z153 := hide b12.size
  clear B_135 Q_136 OWB_137 WC_138 XC_139 GC_140 OG11
  clear b12
  obtain ⟨_, c154, c155, c156, c157⟩ := unhide Q_147
  go_wp2_with fail
  refine (unhide HTO (unhide HN) w12 ((unhide HV).below (unhide B_146))).mono ?_
  rintro e w13 ⟨u13, rfl, o13, b13⟩
  have U13 := hide o13.pe
  clear o13
  clear c154 c155 c156 c157
  have B_158 := hide (bl_st b13 (unhide B_146))
  have Q_159 := hide ((unhide Q_147).below b13)
  have OWB_160 := hide (bl_st b13 (unhide OWB_148))
  have WC_161 := hide ((unhide WC_149).below b13)
  have XC_162 := hide ((unhide XC_150).below b13)
  have GC_163 := hide ((unhide GC_151).below b13)
  have OG_164 := hide ((unhide OG_152).below b13)
  have Z165 := hide b13.size
  clear B_146 Q_147 OWB_148 WC_149 XC_150 GC_151 OG_152
  clear b13
  go_wp2_with fail
  refine (unhide HIM (unhide HN) _ w13 (unhide U13)).mono ?_
  rintro e w14 ⟨r14, rfl, o14, b14⟩
  obtain ⟨D166, D167, D168, D169, hre⟩ := o14.pe.slices
  subst hre
  have B_170 := hide (bl_st b14 (unhide B_158))
  have Q_171 := hide ((unhide Q_159).below b14)
  have OWB_172 := hide (bl_st b14 (unhide OWB_160))
  have WC_173 := hide ((unhide WC_161).below b14)
  have XC_174 := hide ((unhide XC_162).below b14)
  have GC_175 := hide ((unhide GC_163).below b14)
  have OG_176 := hide ((unhide OG_164).below b14)
  have Z177 := hide b14.size
  clear B_158 Q_159 OWB_160 WC_161 XC_162 GC_163 OG_164
  have OH0 := hide o14.pe
  clear o14 b14 U13
  have ba : Below w14.heap.size w14 (w14.alloc (.cells #[.slice D166 y.q.length D167, .int .i64 y.s, .int .i64 y.e, .slice D168 y.i.length D169] 33)) := bl_al (Below.refl _ _)
  have C179 := hide (pc_new w14 (.slice D166 y.q.length D167) y.s y.e (.slice D168 y.i.length D169) 33)
  have Z180 : Hid ((w14.alloc (.cells #[.slice D166 y.q.length D167, .int .i64 y.s, .int .i64 y.e, .slice D168 y.i.length D169] 33)).heap.size = w14.heap.size + 1) := hide (by simp)
  have B_181 := hide (bl_st ba (unhide B_170))
  have Q_182 := hide ((unhide Q_171).below ba)
  have OWB_183 := hide (bl_st ba (unhide OWB_172))
  have WC_184 := hide ((unhide WC_173).below ba)
  have XC_185 := hide ((unhide XC_174).below ba)
  have GC_186 := hide ((unhide GC_175).below ba)
  have OG_187 := hide ((unhide OG_176).below ba)
  have OH_188 := hide ((unhide OH0).below ba)
  have Z189 := hide ba.size
  clear B_170 Q_171 OWB_172 WC_173 XC_174 GC_175 OG_176 OH0
  clear ba
  obtain ⟨_, c190, c191, c192, c193⟩ := unhide C179
  obtain ⟨_, c194, c195, c196, c197⟩ := unhide WC_184
  go_wp2_with fail
  generalize w14.alloc (.cells #[.slice D166 y.q.length D167, .int .i64 y.s, .int .i64 y.e, .slice D168 y.i.length D169] 33) = v178 at *
  refine (unhide HEY (unhide HY) _ _ v178 (unhide OH_188) ((unhide OW0).below (unhide OWB_183))).mono ?_
  rintro e w15 ⟨rfl, b15⟩
  clear c190 c191 c192 c193 c194 c195 c196 c197
  have B_198 := hide (bl_st b15 (unhide B_181))
  have Q_199 := hide ((unhide Q_182).below b15)
  have OWB_200 := hide (bl_st b15 (unhide OWB_183))
  have WC_201 := hide ((unhide WC_184).below b15)
  have XC_202 := hide ((unhide XC_185).below b15)
  have GC_203 := hide ((unhide GC_186).below b15)
  have OG_204 := hide ((unhide OG_187).below b15)
  have OH_205 := hide ((unhide OH_188).below b15)
  have HC_206 := hide ((unhide C179).below b15)
  have Z207 := hide b15.size
  clear B_181 Q_182 OWB_183 WC_184 XC_185 GC_186 OG_187 OH_188 C179
  clear b15
  obtain ⟨_, c208, c209, c210, c211⟩ := unhide GC_203
  go_wp2_with fail
  refine (unhide HHY (unhide HY) _ w15 (unhide OG_204).pe).mono ?_
  rintro e w16 ⟨rfl, b16⟩
  clear c208 c209 c210 c211
  have B_212 := hide (bl_st b16 (unhide B_198))
  have Q_213 := hide ((unhide Q_199).below b16)
  have OWB_214 := hide (bl_st b16 (unhide OWB_200))
  have WC_215 := hide ((unhide WC_201).below b16)
  have XC_216 := hide ((unhide XC_202).below b16)
  have GC_217 := hide ((unhide GC_203).below b16)
  have OG_218 := hide ((unhide OG_204).below b16)
  have OH_219 := hide ((unhide OH_205).below b16)
  have HC_220 := hide ((unhide HC_206).below b16)
  have Z221 := hide b16.size
  clear B_198 Q_199 OWB_200 WC_201 XC_202 GC_203 OG_204 OH_205 HC_206
  clear b16
  go_wp2
  go_ret
  exact ⟨rfl, unhide B_212⟩
end Go.Proofs.Ythonnlifgdnacaa
