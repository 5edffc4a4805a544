/- The laws of PeerOK and PeerOut, walked. -/
import Derived.Test.YthonnlifgdnacaaFrm
namespace Go.Proofs.Ythonnlifgdnacaa
open Go.RowKit
set_option maxHeartbeats 4000000
set_option maxRecDepth 20000
theorem law_ok (w : World) (v : Value) (p : Pe) (hv : peV w v p) (hf : peFits p) :
    Calls Try.prog 6 #[v] w fun e w' => e = .returned (.bool true) ∧ Below w.heap.size w w' := by
  obtain ⟨q, i, rfl, hq, hi⟩ := hv
  have hv : peV w (peA q p.s p.e i) p := ⟨q, i, rfl, hq, hi⟩
  have h6 := hide (fun W (h : peV W (peA q p.s p.e i) p) => sz25 (peA q p.s p.e i) p 1048576 W h hf (by omega) (by omega))
  have HV := hide hv
  have HTO : Hid (peFew p → ∀ W, peV W (peA q p.s p.e i) p → Calls Try.prog 27 #[peA q p.s p.e i] W fun e w' => ∃ r, e = .returned r ∧ peO W.heap.size w'.heap.size w' r p ∧ Below W.heap.size W w') := hide fun hn W hu => to27 _ p W hu hn
  have HEQ : Hid (peFew p → ∀ u u' W, peV W u p → peV W u' p → Calls Try.prog 28 #[u, u'] W fun e w' => e = .returned (.bool true) ∧ Below W.heap.size W w') := hide fun hn u u' W hu hu' => eq28 u u' p W hu hu' hn
  have HSP : Hid (peFew p → ∀ u W, peV W u p → Calls Try.prog 26 #[u] W fun e w' => e = .returned (.bool (peOK p)) ∧ Below W.heap.size W w') := hide fun hn u W hu => ok26 u p W hu hn
  have HIM : Hid (peFew p → ∀ u W, peV W u p → Calls Try.prog 16 #[u] W fun e w' => e = .returned (.bool (peOK p)) ∧ Below W.heap.size W w') := hide fun hn u W hu => ok16 u p W hu hn
  generalize peOK p = bb at *
  have B0 : Below w.heap.size w (w.alloc (.cells #[q, .int .i64 p.s, .int .i64 p.e, i] 48)) := bl_al (Below.refl _ _)
  have HB := hide B0
  have C := pc_new w q p.s p.e i 48
  have HC := hide C
  have SZ : Hid ((w.alloc (.cells #[q, .int .i64 p.s, .int .i64 p.e, i] 48)).heap.size = w.heap.size + 1) := hide (by simp)
  clear hf hv hq hi B0
  obtain ⟨_, c0, c1, c2, c3⟩ := C
  go_enter Try.func6, Try.ntmps6
  go_wp2_with fail
  generalize w.alloc (.cells #[q, .int .i64 p.s, .int .i64 p.e, i] 48) = w0 at *
  refine (unhide h6 w0 ((unhide HV).below (unhide HB))).mono ?_
  rintro e w1 ⟨z, rfl, hz, b1⟩
  have B_1 := hide (bl_st b1 (unhide HB))
  have Q_2 := hide ((unhide HC).below b1)
  have Z3 := hide b1.size
  clear HB HC
  have HZ := hide hz
  clear hz b1 h6 c0 c1 c2 c3
  by_cases hneg : z < 0
  · go_wp2
    go_ret
    exact ⟨rfl, unhide B_1⟩
  have HN : Hid (peFew p) := hide (by have := Or.resolve_left (unhide HZ) hneg; exact ⟨by omega, by omega⟩)
  have hge : 0 ≤ z := by omega
  clear hneg HZ
  obtain ⟨_, c4, c5, c6, c7⟩ := unhide Q_2
  go_wp2_with fail
  refine (unhide HTO (unhide HN) w1 ((unhide HV).below (unhide B_1))).mono ?_
  rintro e w2 ⟨u1, rfl, o2, b2⟩
  have U2 := hide o2.pe
  clear o2
  clear c4 c5 c6 c7
  have B_8 := hide (bl_st b2 (unhide B_1))
  have Q_9 := hide ((unhide Q_2).below b2)
  have Z10 := hide b2.size
  clear B_1 Q_2
  clear b2
  go_wp2_with fail
  refine (unhide HSP (unhide HN) _ w2 (unhide U2)).mono ?_
  rintro e w3 ⟨rfl, b3⟩
  have B_11 := hide (bl_st b3 (unhide B_8))
  have Q_12 := hide ((unhide Q_9).below b3)
  have Z13 := hide b3.size
  clear B_8 Q_9
  clear b3 U2
  obtain ⟨_, c14, c15, c16, c17⟩ := unhide Q_12
  go_wp2_with fail
  refine (unhide HTO (unhide HN) w3 ((unhide HV).below (unhide B_11))).mono ?_
  rintro e w4 ⟨u, rfl, o4, b4⟩
  obtain ⟨D18, D19, D20, D21, hre⟩ := o4.pe.slices
  subst hre
  clear c14 c15 c16 c17
  have B_22 := hide (bl_st b4 (unhide B_11))
  have Q_23 := hide ((unhide Q_12).below b4)
  have Z24 := hide b4.size
  clear B_11 Q_12
  have OX0 := hide o4
  clear o4 b4
  have ba : Below w4.heap.size w4 (w4.alloc (.cells #[.slice D18 p.q.length D19, .int .i64 p.s, .int .i64 p.e, .slice D20 p.i.length D21] 33)) := bl_al (Below.refl _ _)
  have C26 := hide (pc_new w4 (.slice D18 p.q.length D19) p.s p.e (.slice D20 p.i.length D21) 33)
  have Z27 : Hid ((w4.alloc (.cells #[.slice D18 p.q.length D19, .int .i64 p.s, .int .i64 p.e, .slice D20 p.i.length D21] 33)).heap.size = w4.heap.size + 1) := hide (by simp)
  have B_28 := hide (bl_st ba (unhide B_22))
  have Q_29 := hide ((unhide Q_23).below ba)
  have OX_30 := hide ((unhide OX0).below ba)
  have Z31 := hide ba.size
  clear B_22 Q_23 OX0
  clear ba
  obtain ⟨_, c32, c33, c34, c35⟩ := unhide C26
  go_wp2_with fail
  generalize w4.alloc (.cells #[.slice D18 p.q.length D19, .int .i64 p.s, .int .i64 p.e, .slice D20 p.i.length D21] 33) = v25 at *
  refine (unhide HIM (unhide HN) _ v25 (unhide OX_30).pe).mono ?_
  rintro e w6 ⟨rfl, b5⟩
  clear c32 c33 c34 c35
  have B_36 := hide (bl_st b5 (unhide B_28))
  have Q_37 := hide ((unhide Q_29).below b5)
  have OX_38 := hide ((unhide OX_30).below b5)
  have XC_39 := hide ((unhide C26).below b5)
  have Z40 := hide b5.size
  clear B_28 Q_29 OX_30 C26
  clear b5
  go_wp2
  refine wp_region_held (S := fun W' => Below w6.heap.size w6 W') (by kernel_rfl) ?_
  have hS0 : Below w6.heap.size w6 { w6 with drawn := w6.drawn + 1 } := below_drewN (Below.refl _ _) 1
  refine wpAnyH_take (i := 0) (oi := { dst := some 22, op := Op.load 33 (Operand.tmp 5), type := 33, pos := "exact.go:4191", after := #[], guard := none }) (v := ?_) rfl (by kernel_rfl) (by kernel_rfl) (by kernel_rfl) (fun _ _ _ h => h) (Or.inl ⟨by rfl, ?_⟩) hS0 ?_
  rotate_left
  · intro W hSw
    obtain ⟨_, c0, c1, c2, c3⟩ := (unhide Q_37).below hSw
    obtain ⟨_, d0, d1, d2, d3⟩ := (unhide XC_39).below hSw
    go_simp
    try with_reducible rfl
  simp only [Act.put, List.setIfInBounds_toArray, List.set_cons_zero, List.set_cons_succ]
  refine wpAnyH_take (i := 1) (oi := { dst := some 23, op := Op.load 48 (Operand.tmp 1), type := 48, pos := "exact.go:4191", after := #[], guard := none }) (v := ?_) rfl (by kernel_rfl) (by kernel_rfl) (by kernel_rfl) (fun _ _ _ h => h) (Or.inl ⟨by rfl, ?_⟩) hS0 ?_
  rotate_left
  · intro W hSw
    obtain ⟨_, c0, c1, c2, c3⟩ := (unhide Q_37).below hSw
    obtain ⟨_, d0, d1, d2, d3⟩ := (unhide XC_39).below hSw
    go_simp
    try with_reducible rfl
  simp only [Act.put, List.setIfInBounds_toArray, List.set_cons_zero, List.set_cons_succ]
  refine wpAnyH_one (i := 2) (by kernel_rfl) ?_
  refine wpOp_step (o := { dst := some 24, op := Op.call { callee := Callee.value (Operand.func 27), args := #[Operand.tmp 23], argTypes := #[48] }, type := 33, pos := "exact.go:4191", after := #[{ on := 1, ground := Ground.data }], guard := none }) rfl fun K' hK => step_enterW (by rfl) 27 #[peA q p.s p.e i] (by go_simp) ((unhide HTO (unhide HN) _ (((unhide HV).below (unhide B_36)).below hS0)).mono ?_)
  rintro e w7 ⟨u7, rfl, o7, b7⟩
  have s7 := bl_st b7 hS0
  have U7 := hide ((unhide OX_38).below s7).pe
  have V7 := hide o7.pe
  clear b7 o7
  refine ⟨_, rfl, hK _ _ ⟨s7, ?_⟩⟩
  simp only [Act.put, List.setIfInBounds_toArray, List.set_cons_zero, List.set_cons_succ]
  refine wpAnyH_one (i := 3) (by kernel_rfl) ?_
  refine wpOp_step (o := { dst := some 25, op := Op.call { callee := Callee.value (Operand.func 28), args := #[Operand.tmp 22, Operand.tmp 24], argTypes := #[33, 33] }, type := 4, pos := "exact.go:4191", after := #[{ on := 0, ground := Ground.data }, { on := 2, ground := Ground.data }, { on := 2, ground := Ground.chain }], guard := none }) rfl fun K' hK => step_enterW (by rfl) 28 #[peA (.slice D18 p.q.length D19) p.s p.e (.slice D20 p.i.length D21), u7] (by go_simp) ((unhide HEQ (unhide HN) _ _ _ (unhide U7) (unhide V7)).mono ?_)
  rintro e w8 ⟨rfl, b8⟩
  have s8 := bl_st b8 s7
  clear b8
  refine ⟨_, rfl, hK _ _ ⟨s8, ?_⟩⟩
  simp only [Act.put, List.setIfInBounds_toArray, List.set_cons_zero, List.set_cons_succ]
  refine wpAnyH_take (i := 4) (oi := { dst := some 26, op := Op.unOp UnOp.not 4 (Operand.tmp 25), type := 4, pos := "exact.go:4191", after := #[{ on := 3, ground := Ground.data }], guard := none }) (v := ?_) rfl (by kernel_rfl) (by kernel_rfl) (by kernel_rfl) (fun _ _ _ h => h) (Or.inl ⟨by rfl, ?_⟩) s8 ?_
  rotate_left
  · intro W hSw
    go_simp
    try with_reducible rfl
  simp only [Act.put, List.setIfInBounds_toArray, List.set_cons_zero, List.set_cons_succ]
  refine wpAnyH_done (by kernel_rfl) ?_ _
  have B_41 := hide (bl_st s8 (unhide B_36))
  have Q_42 := hide ((unhide Q_37).below s8)
  have OX_43 := hide ((unhide OX_38).below s8)
  have XC_44 := hide ((unhide XC_39).below s8)
  have Z45 := hide s8.size
  clear B_36 Q_37 OX_38 XC_39
  clear s8 s7 hS0 U7 V7
  go_wp2
  go_ret
  exact ⟨rfl, unhide B_41⟩
theorem law_out (w : World) (v : Value) (p : Pe) (hv : peV w v p) (hf : peFits p) :
    Calls Try.prog 8 #[v] w fun e w' => e = .returned (.bool true) ∧ Below w.heap.size w w' := by
  obtain ⟨q, i, rfl, hq, hi⟩ := hv
  have hv : peV w (peA q p.s p.e i) p := ⟨q, i, rfl, hq, hi⟩
  have h6 := hide (fun W (h : peV W (peA q p.s p.e i) p) => sz25 (peA q p.s p.e i) p 1048576 W h hf (by omega) (by omega))
  have HV := hide hv
  have HTO : Hid (peFew p → ∀ W, peV W (peA q p.s p.e i) p → Calls Try.prog 27 #[peA q p.s p.e i] W fun e w' => ∃ r, e = .returned r ∧ peO W.heap.size w'.heap.size w' r p ∧ Below W.heap.size W w') := hide fun hn W hu => to27 _ p W hu hn
  have HEQ : Hid (peFew p → ∀ u u' W, peV W u p → peV W u' p → Calls Try.prog 28 #[u, u'] W fun e w' => e = .returned (.bool true) ∧ Below W.heap.size W w') := hide fun hn u u' W hu hu' => eq28 u u' p W hu hu' hn
  have HSP : Hid (peFew p → ∀ u W, peV W u p → Calls Try.prog 24 #[u] W fun e w' => e = .returned (.tuple #[frV (outR p).1, .int .i64 (outR p).2]) ∧ Below W.heap.size W w') := hide fun hn u W hu => out24 u p W hu hn
  have HIM : Hid (peFew p → ∀ u W, peV W u p → Calls Try.prog 23 #[u] W fun e w' => e = .returned (.tuple #[frV (outR p).1, .int .i64 (outR p).2]) ∧ Below W.heap.size W w') := hide fun hn u W hu => out23 u p W hu hn
  have HEF := hide (fun W => eq31 (outR p).1 W)
  generalize outR p = rr at *
  obtain ⟨⟨fs, fa, fh, fb⟩, cc⟩ := rr
  dsimp only [frV] at *
  have B0 : Below w.heap.size w (w.alloc (.cells #[q, .int .i64 p.s, .int .i64 p.e, i] 48)) := bl_al (Below.refl _ _)
  have HB := hide B0
  have C := pc_new w q p.s p.e i 48
  have HC := hide C
  have SZ : Hid ((w.alloc (.cells #[q, .int .i64 p.s, .int .i64 p.e, i] 48)).heap.size = w.heap.size + 1) := hide (by simp)
  clear hf hv hq hi B0
  obtain ⟨_, c0, c1, c2, c3⟩ := C
  go_enter Try.func8, Try.ntmps8
  go_wp2_with fail
  generalize w.alloc (.cells #[q, .int .i64 p.s, .int .i64 p.e, i] 48) = w0 at *
  refine (unhide h6 w0 ((unhide HV).below (unhide HB))).mono ?_
  rintro e w1 ⟨z, rfl, hz, b1⟩
  have B_1 := hide (bl_st b1 (unhide HB))
  have Q_2 := hide ((unhide HC).below b1)
  have Z3 := hide b1.size
  clear HB HC
  have HZ := hide hz
  clear hz b1 h6 c0 c1 c2 c3
  by_cases hneg : z < 0
  · go_wp2
    go_ret
    exact ⟨rfl, unhide B_1⟩
  have HN : Hid (peFew p) := hide (by have := Or.resolve_left (unhide HZ) hneg; exact ⟨by omega, by omega⟩)
  have hge : 0 ≤ z := by omega
  clear hneg HZ
  obtain ⟨_, c4, c5, c6, c7⟩ := unhide Q_2
  go_wp2_with fail
  refine (unhide HTO (unhide HN) w1 ((unhide HV).below (unhide B_1))).mono ?_
  rintro e w2 ⟨u1, rfl, o2, b2⟩
  have U2 := hide o2.pe
  clear o2
  clear c4 c5 c6 c7
  have B_8 := hide (bl_st b2 (unhide B_1))
  have Q_9 := hide ((unhide Q_2).below b2)
  have Z10 := hide b2.size
  clear B_1 Q_2
  clear b2
  go_wp2_with fail
  refine (unhide HSP (unhide HN) _ w2 (unhide U2)).mono ?_
  rintro e w3 ⟨rfl, b3⟩
  have B_11 := hide (bl_st b3 (unhide B_8))
  have Q_12 := hide ((unhide Q_9).below b3)
  have Z13 := hide b3.size
  clear B_8 Q_9
  clear b3 U2
  have ba : Below w3.heap.size w3 (w3.alloc (.cells #[.int .i64 fs, .int .i64 fa, .bool fh, .string fb] 41)) := bl_al (Below.refl _ _)
  have C15 := hide (fc_new w3 fs fa fh fb 41)
  have Z16 : Hid ((w3.alloc (.cells #[.int .i64 fs, .int .i64 fa, .bool fh, .string fb] 41)).heap.size = w3.heap.size + 1) := hide (by simp)
  have B_17 := hide (bl_st ba (unhide B_11))
  have Q_18 := hide ((unhide Q_12).below ba)
  have Z19 := hide ba.size
  clear B_11 Q_12
  clear ba
  obtain ⟨_, c20, c21, c22, c23⟩ := unhide C15
  obtain ⟨_, c24, c25, c26, c27⟩ := unhide Q_18
  go_wp2_with fail
  generalize w3.alloc (.cells #[.int .i64 fs, .int .i64 fa, .bool fh, .string fb] 41) = v14 at *
  refine (unhide HTO (unhide HN) v14 ((unhide HV).below (unhide B_17))).mono ?_
  rintro e w4 ⟨u, rfl, o4, b4⟩
  obtain ⟨D28, D29, D30, D31, hre⟩ := o4.pe.slices
  subst hre
  clear c20 c21 c22 c23 c24 c25 c26 c27
  have B_32 := hide (bl_st b4 (unhide B_17))
  have Q_33 := hide ((unhide Q_18).below b4)
  have WC_34 := hide ((unhide C15).below b4)
  have Z35 := hide b4.size
  clear B_17 Q_18 C15
  have OX0 := hide o4
  clear o4 b4
  have ba : Below w4.heap.size w4 (w4.alloc (.cells #[.slice D28 p.q.length D29, .int .i64 p.s, .int .i64 p.e, .slice D30 p.i.length D31] 33)) := bl_al (Below.refl _ _)
  have C37 := hide (pc_new w4 (.slice D28 p.q.length D29) p.s p.e (.slice D30 p.i.length D31) 33)
  have Z38 : Hid ((w4.alloc (.cells #[.slice D28 p.q.length D29, .int .i64 p.s, .int .i64 p.e, .slice D30 p.i.length D31] 33)).heap.size = w4.heap.size + 1) := hide (by simp)
  have B_39 := hide (bl_st ba (unhide B_32))
  have Q_40 := hide ((unhide Q_33).below ba)
  have WC_41 := hide ((unhide WC_34).below ba)
  have OX_42 := hide ((unhide OX0).below ba)
  have Z43 := hide ba.size
  clear B_32 Q_33 WC_34 OX0
  clear ba
  obtain ⟨_, c44, c45, c46, c47⟩ := unhide C37
  go_wp2_with fail
  generalize w4.alloc (.cells #[.slice D28 p.q.length D29, .int .i64 p.s, .int .i64 p.e, .slice D30 p.i.length D31] 33) = v36 at *
  refine (unhide HIM (unhide HN) _ v36 (unhide OX_42).pe).mono ?_
  rintro e w5 ⟨rfl, b5⟩
  clear c44 c45 c46 c47
  have B_48 := hide (bl_st b5 (unhide B_39))
  have Q_49 := hide ((unhide Q_40).below b5)
  have WC_50 := hide ((unhide WC_41).below b5)
  have OX_51 := hide ((unhide OX_42).below b5)
  have XC_52 := hide ((unhide C37).below b5)
  have Z53 := hide b5.size
  clear B_39 Q_40 WC_41 OX_42 C37
  clear b5
  have ba : Below w5.heap.size w5 (w5.alloc (.cells #[.int .i64 fs, .int .i64 fa, .bool fh, .string fb] 41)) := bl_al (Below.refl _ _)
  have C55 := hide (fc_new w5 fs fa fh fb 41)
  have Z56 : Hid ((w5.alloc (.cells #[.int .i64 fs, .int .i64 fa, .bool fh, .string fb] 41)).heap.size = w5.heap.size + 1) := hide (by simp)
  have B_57 := hide (bl_st ba (unhide B_48))
  have Q_58 := hide ((unhide Q_49).below ba)
  have WC_59 := hide ((unhide WC_50).below ba)
  have OX_60 := hide ((unhide OX_51).below ba)
  have XC_61 := hide ((unhide XC_52).below ba)
  have Z62 := hide ba.size
  clear B_48 Q_49 WC_50 OX_51 XC_52
  clear ba
  obtain ⟨_, c63, c64, c65, c66⟩ := unhide C55
  obtain ⟨_, c67, c68, c69, c70⟩ := unhide WC_59
  go_wp2_with fail
  generalize w5.alloc (.cells #[.int .i64 fs, .int .i64 fa, .bool fh, .string fb] 41) = v54 at *
  refine (unhide HEF v54).mono ?_
  rintro e w6 ⟨rfl, b6⟩
  clear c63 c64 c65 c66 c67 c68 c69 c70
  have B_71 := hide (bl_st b6 (unhide B_57))
  have Q_72 := hide ((unhide Q_58).below b6)
  have WC_73 := hide ((unhide WC_59).below b6)
  have OX_74 := hide ((unhide OX_60).below b6)
  have XC_75 := hide ((unhide XC_61).below b6)
  have GC_76 := hide ((unhide C55).below b6)
  have Z77 := hide b6.size
  clear B_57 Q_58 WC_59 OX_60 XC_61 C55
  clear b6
  go_wp2
  refine wp_region_held (S := fun W' => Below w6.heap.size w6 W') (by kernel_rfl) ?_
  have hS0 : Below w6.heap.size w6 { w6 with drawn := w6.drawn + 1 } := below_drewN (Below.refl _ _) 1
  refine wpAnyH_take (i := 0) (oi := { dst := some 36, op := Op.load 33 (Operand.tmp 6), type := 33, pos := "exact.go:4259", after := #[], guard := none }) (v := ?_) rfl (by kernel_rfl) (by kernel_rfl) (by kernel_rfl) (fun _ _ _ h => h) (Or.inl ⟨by rfl, ?_⟩) hS0 ?_
  rotate_left
  · intro W hSw
    obtain ⟨_, c0, c1, c2, c3⟩ := (unhide Q_72).below hSw
    obtain ⟨_, d0, d1, d2, d3⟩ := (unhide XC_75).below hSw
    go_simp
    try with_reducible rfl
  simp only [Act.put, List.setIfInBounds_toArray, List.set_cons_zero, List.set_cons_succ]
  refine wpAnyH_take (i := 1) (oi := { dst := some 37, op := Op.load 48 (Operand.tmp 1), type := 48, pos := "exact.go:4259", after := #[], guard := none }) (v := ?_) rfl (by kernel_rfl) (by kernel_rfl) (by kernel_rfl) (fun _ _ _ h => h) (Or.inl ⟨by rfl, ?_⟩) hS0 ?_
  rotate_left
  · intro W hSw
    obtain ⟨_, c0, c1, c2, c3⟩ := (unhide Q_72).below hSw
    obtain ⟨_, d0, d1, d2, d3⟩ := (unhide XC_75).below hSw
    go_simp
    try with_reducible rfl
  simp only [Act.put, List.setIfInBounds_toArray, List.set_cons_zero, List.set_cons_succ]
  refine wpAnyH_one (i := 2) (by kernel_rfl) ?_
  refine wpOp_step (o := { dst := some 38, op := Op.call { callee := Callee.value (Operand.func 27), args := #[Operand.tmp 37], argTypes := #[48] }, type := 33, pos := "exact.go:4259", after := #[{ on := 1, ground := Ground.data }], guard := none }) rfl fun K' hK => step_enterW (by rfl) 27 #[peA q p.s p.e i] (by go_simp) ((unhide HTO (unhide HN) _ (((unhide HV).below (unhide B_71)).below hS0)).mono ?_)
  rintro e w7 ⟨u7, rfl, o7, b7⟩
  have s7 := bl_st b7 hS0
  have U7 := hide ((unhide OX_74).below s7).pe
  have V7 := hide o7.pe
  clear b7 o7
  refine ⟨_, rfl, hK _ _ ⟨s7, ?_⟩⟩
  simp only [Act.put, List.setIfInBounds_toArray, List.set_cons_zero, List.set_cons_succ]
  refine wpAnyH_one (i := 3) (by kernel_rfl) ?_
  refine wpOp_step (o := { dst := some 39, op := Op.call { callee := Callee.value (Operand.func 28), args := #[Operand.tmp 36, Operand.tmp 38], argTypes := #[33, 33] }, type := 4, pos := "exact.go:4259", after := #[{ on := 0, ground := Ground.data }, { on := 2, ground := Ground.data }, { on := 2, ground := Ground.chain }], guard := none }) rfl fun K' hK => step_enterW (by rfl) 28 #[peA (.slice D28 p.q.length D29) p.s p.e (.slice D30 p.i.length D31), u7] (by go_simp) ((unhide HEQ (unhide HN) _ _ _ (unhide U7) (unhide V7)).mono ?_)
  rintro e w8 ⟨rfl, b8⟩
  have s8 := bl_st b8 s7
  clear b8
  refine ⟨_, rfl, hK _ _ ⟨s8, ?_⟩⟩
  simp only [Act.put, List.setIfInBounds_toArray, List.set_cons_zero, List.set_cons_succ]
  refine wpAnyH_take (i := 4) (oi := { dst := some 40, op := Op.unOp UnOp.not 4 (Operand.tmp 39), type := 4, pos := "exact.go:4259", after := #[{ on := 3, ground := Ground.data }], guard := none }) (v := ?_) rfl (by kernel_rfl) (by kernel_rfl) (by kernel_rfl) (fun _ _ _ h => h) (Or.inl ⟨by rfl, ?_⟩) s8 ?_
  rotate_left
  · intro W hSw
    go_simp
    try with_reducible rfl
  simp only [Act.put, List.setIfInBounds_toArray, List.set_cons_zero, List.set_cons_succ]
  refine wpAnyH_done (by kernel_rfl) ?_ _
  have B_78 := hide (bl_st s8 (unhide B_71))
  have Q_79 := hide ((unhide Q_72).below s8)
  have WC_80 := hide ((unhide WC_73).below s8)
  have OX_81 := hide ((unhide OX_74).below s8)
  have XC_82 := hide ((unhide XC_75).below s8)
  have GC_83 := hide ((unhide GC_76).below s8)
  have Z84 := hide s8.size
  clear B_71 Q_72 WC_73 OX_74 XC_75 GC_76
  clear s8 s7 hS0 U7 V7
  go_wp2
  go_ret
  exact ⟨rfl, unhide B_78⟩
end Go.Proofs.Ythonnlifgdnacaa
