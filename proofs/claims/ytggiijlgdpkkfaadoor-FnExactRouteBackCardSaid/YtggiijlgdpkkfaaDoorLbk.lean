/- The law of RouteBack, walked. -/
import Derived.Test.YtggiijlgdpkkfaaDoorBkq
import Derived.Test.YtggiijlgdpkkfaaDoorMxu
import Derived.Test.YtggiijlgdpkkfaaDoorHst
import Derived.OwnWalk
namespace Go.Proofs.YtggiijlgdpkkfaaDoor
open Go.RowKit
set_option maxHeartbeats 4000000
set_option maxRecDepth 20000
theorem MC.touchR {q lo hi : Nat} {i r f s : Value} {b a : Int} {W W' : World} (h : MC q i r f s b a W) (ht : TouchR lo hi W W') (hd : q < lo ∨ hi ≤ q) : MC q i r f s b a W' := h.at ht.size (ht.block q h.lt hd)
theorem ownM.touchR {lo hi lo' hi' : Nat} {w w' : World} {v : Value} {x : Mx} (h : ownM lo hi w v x) (ht : TouchR lo' hi' w w') (hd : hi ≤ lo' ∨ hi' ≤ lo) : ownM lo hi w' v x := by
  obtain ⟨i, r, f, s, m1, m2, m3, rfl, a1, a2, a3, a4, h1, h2, h3, h4⟩ := h
  exact ⟨i, r, f, s, m1, m2, m3, rfl, a1, a2, a3, a4, h1.touchR ht (by omega), h2.touchR ht (by omega), h3.touchR ht (by omega), h4.touchR ht (by omega)⟩
theorem mxV.slices {w : World} {v : Value} {x : Mx} (h : mxV w v x) : ∃ A1 d1 A2 d2 A3 d3 A4 d4, v = mxo (.slice A1 x.i.length d1) (.slice A2 x.r.length d2) (.slice A3 x.f.length d3) (.slice A4 x.s.length d4) x.b x.a := by
  obtain ⟨i, r, f, s, rfl, hi, hr, hf, hs⟩ := h
  obtain ⟨A1, d1, rfl⟩ := hi.slice
  obtain ⟨A2, d2, rfl⟩ := hr.slice
  obtain ⟨A3, d3, rfl⟩ := hf.slice
  obtain ⟨A4, d4, rfl⟩ := hs.slice
  exact ⟨_, _, _, _, _, _, _, _, rfl⟩
theorem bkR_len (x : Mx) (c : Int) (bs : List ByteArray) : (bkR x c bs).1.length ≤ 16 := by
  by_cases h : bkC x c bs = 0
  · rw [bkR_ok h, bkF_len, List.length_replicate]
    have := (bkC_ok h).1
    omega
  · rw [bkR_code rfl h]; exact Nat.zero_le _
theorem law_back (w : World) (v : Value) (x : Mx) (hv : mxV w v x) (hf : mxFits x) (c : Int) (vb : Value) (bs : List ByteArray) (hb : strsV w vb bs) (hbl : bs.length ≤ maxLen) (hbs : ∀ t ∈ bs, t.size ≤ maxLen) (tq : TypeId) (frq : Nat × Nat) (hq : w.heap[0]? = some (.cells qArr tq frq)) :
    Calls Tryd.prog 3 #[v, .int .i64 c, vb] w fun e w' => e = .returned (.bool true) ∧ Below w.heap.size w w' := by
  have hq0 : 0 < w.heap.size := (Array.getElem?_eq_some_iff.1 hq).1
  have HQ : Hid (∀ W, Below w.heap.size w W → W.heap[0]? = some (.cells qArr tq frq)) := hide fun W hW => (hW.block 0 hq0).trans hq
  have HV := hide hv
  have HB := hide hb
  have HF := hide hf
  have HBL := hide (And.intro hbl hbs)
  obtain ⟨A1, d1, A2, d2, A3, d3, A4, d4, rfl⟩ := hv.slices
  obtain ⟨A5, d5, rfl⟩ := hb.slice
  have B0 : Below w.heap.size w (w.alloc (.cells #[.slice A1 x.i.length d1, .slice A2 x.r.length d2, .slice A3 x.f.length d3, .slice A4 x.s.length d4, .int .i64 x.b, .int .i64 x.a] 25)) := bl_al (Below.refl _ _)
  have C0 := mc_new w (.slice A1 x.i.length d1) (.slice A2 x.r.length d2) (.slice A3 x.f.length d3) (.slice A4 x.s.length d4) x.b x.a 25
  have HC0 := hide C0
  have HB0 := hide B0
  have SZ : Hid ((w.alloc (.cells #[.slice A1 x.i.length d1, .slice A2 x.r.length d2, .slice A3 x.f.length d3, .slice A4 x.s.length d4, .int .i64 x.b, .int .i64 x.a] 25)).heap.size = w.heap.size + 1) := hide (by simp)
  have KZ := hide (szM (mxo (.slice A1 x.i.length d1) (.slice A2 x.r.length d2) (.slice A3 x.f.length d3) (.slice A4 x.s.length d4) x.b x.a) x _ (hv.below B0) hf)
  have HLN := hide (bkR_len x c bs)
  have HTO : Hid (mxN x ≤ 1048576 → ∀ W, mxV W (mxo (.slice A1 x.i.length d1) (.slice A2 x.r.length d2) (.slice A3 x.f.length d3) (.slice A4 x.s.length d4) x.b x.a) x → Calls Tryd.prog 7 #[mxo (.slice A1 x.i.length d1) (.slice A2 x.r.length d2) (.slice A3 x.f.length d3) (.slice A4 x.s.length d4) x.b x.a] W fun e w' => ∃ r, e = .returned r ∧ ownM W.heap.size w'.heap.size w' r x ∧ Below W.heap.size W w') := hide fun hn W hu => to7 _ x W hu hn
  have HTB : Hid (bs.length ≤ 1048576 → ∀ W, strsV W (.slice A5 bs.length d5) bs → Calls Tryd.prog 8 #[.slice A5 bs.length d5] W fun e w' => ∃ r, e = .returned r ∧ ownS W.heap.size w'.heap.size w' r bs ∧ Below W.heap.size W w') := hide fun hn W hu => to30 _ bs W hu (by omega)
  have HSP : Hid (mxN x ≤ 1048576 → bs.length ≤ 1048576 → ∀ u u' W, mxV W u x → strsV W u' bs → Calls Tryd.prog 6 #[u, .int .i64 c, u'] W fun e w' => outS W (bkR x c bs).1 (bkR x c bs).2 e w') := hide fun h1 h2 u u' W hu hu' => route6 u u' x c bs W hu hu' h1 h2
  have HIM : Hid (mxN x ≤ 1048576 → bs.length ≤ 1048576 → ∀ u u' W, mxV W u x → strsV W u' bs → Below w.heap.size w W → Calls Tryd.prog 9 #[u, .int .i64 c, u'] W fun e w' => outS W (bkR x c bs).1 (bkR x c bs).2 e w') := hide fun h1 h2 u u' W hu hu' hW => route9 u u' x c bs W hu hu' h1 h2 tq frq (unhide HQ W hW)
  generalize bkR x c bs = rr at *
  obtain ⟨ys, cd⟩ := rr
  dsimp only at *
  have HEY : Hid (∀ u u' W, strsV W u ys → strsV W u' ys → Calls Tryd.prog 10 #[u, u'] W fun e w' => e = .returned (.bool true) ∧ ∃ k, w' = W.drewN k) := hide fun u u' W hu hu' => eq33 u u' ys W hu hu' (by have := unhide HLN; omega)
  have HMY : Hid (∀ lo hi u W, ownS lo hi W u ys → Calls Tryd.prog 13 #[u, .int .i64 1] W fun e w' => e = .returned (.int .i64 (1 + (ys.length : Int))) ∧ ownS lo hi w' u (marksS ys.length) ∧ TouchS u W w') := hide fun lo hi u W hu => mark34 lo hi u ys W hu (by have := unhide HLN; omega)
  have HHY : Hid (∀ u W, strsV W u (marksS ys.length) → Calls Tryd.prog 14 #[u, .int .i64 1] W fun e w' => e = .returned (.int .i64 (1 + (ys.length : Int))) ∧ Below W.heap.size W w') := hide fun u W hu => held36 u ys.length W hu (by have := unhide HLN; omega)
  have y0 : (0 : Int) ≤ (ys.length : Int) := by omega
  obtain ⟨_, c0, c1, c2, c3, c4, c5⟩ := C0
  clear hv hb hf hbl hbs hq hq0 B0
  go_enter Tryd.func3, Tryd.ntmps3
  go_wp2_with fail
  generalize w.alloc (.cells #[.slice A1 x.i.length d1, .slice A2 x.r.length d2, .slice A3 x.f.length d3, .slice A4 x.s.length d4, .int .i64 x.b, .int .i64 x.a] 25) = w0 at *
  refine (unhide KZ).mono ?_
  rintro e w1 ⟨z, rfl, hz, b1⟩
  have B_1 := hide (bl_st b1 (unhide HB0))
  have Q_2 := hide ((unhide HC0).below b1)
  have Z3 := hide b1.size
  clear HB0 HC0
  have HZ := hide hz
  clear hz b1 KZ c0 c1 c2 c3 c4 c5
  by_cases hneg : z < 0
  · go_wp2
    go_ret
    exact ⟨rfl, unhide B_1⟩
  have hz2 := Or.resolve_left (unhide HZ) hneg
  have HN := hide (show mxN x ≤ 1048576 by omega)
  have hge : 0 ≤ z := hz2.1
  have KS := hide (szS (.slice A5 bs.length d5) bs z w1 ((unhide HB).below (unhide B_1)) (unhide HBL).1 (unhide HBL).2 hge (by omega))
  have HZ2 := hide hz2
  clear hneg HZ hz2 HBL HF
  go_wp2_with fail
  refine (unhide KS).mono ?_
  rintro e w1' ⟨z2, rfl, hz, hw⟩
  have hw2 := hw.symm
  subst hw2
  have HZ3 := hide hz
  clear hz KS
  by_cases hneg : z2 < 0
  · go_wp2
    go_ret
    exact ⟨rfl, unhide B_1⟩
  have HNB : Hid (bs.length ≤ 1048576 ∧ mxN x + bs.length ≤ 1048576) := hide (by have h1 := Or.resolve_left (unhide HZ3) hneg; have h2 := unhide HZ2; omega)
  have hge2 : 0 ≤ z2 := by omega
  clear hneg HZ3 HZ2 hge
  obtain ⟨_, c4, c5, c6, c7, c8, c9⟩ := unhide Q_2
  go_wp2_with fail
  refine (unhide HTO (unhide HN) w1 ((unhide HV).below (unhide B_1))).mono ?_
  rintro e w2 ⟨u1, rfl, o2, b2⟩
  have U2 := hide o2
  clear o2
  clear c4 c5 c6 c7 c8 c9
  have B_10 := hide (bl_st b2 (unhide B_1))
  have Q_11 := hide ((unhide Q_2).below b2)
  have Z12 := hide b2.size
  clear B_1 Q_2
  clear b2
  go_wp2_with fail
  refine (unhide HTB (unhide HNB).1 w2 ((unhide HB).below (unhide B_10))).mono ?_
  rintro e w3 ⟨u2, rfl, o3, b3⟩
  have B_13 := hide (bl_st b3 (unhide B_10))
  have Q_14 := hide ((unhide Q_11).below b3)
  have U_15 := hide ((unhide U2).below b3)
  have Z16 := hide b3.size
  clear B_10 Q_11 U2
  have V3 := hide o3
  clear o3 b3
  go_wp2_with fail
  refine (unhide HSP (unhide HN) (unhide HNB).1 _ _ w3 (unhide U_15).mx (unhide V3).strs).mono ?_
  rintro e w4 ⟨r4, rfl, o4, b4⟩
  clear U_15 V3
  have B_17 := hide (bl_st b4 (unhide B_13))
  have Q_18 := hide ((unhide Q_14).below b4)
  have Z19 := hide b4.size
  clear B_13 Q_14
  have OW0 := hide o4
  clear o4 b4
  obtain ⟨_, c20, c21, c22, c23, c24, c25⟩ := unhide Q_18
  go_wp2_with fail
  refine (unhide HTO (unhide HN) w4 ((unhide HV).below (unhide B_17))).mono ?_
  rintro e w5 ⟨u5, rfl, o5, b5⟩
  obtain ⟨A1x, d1x, A2x, d2x, A3x, d3x, A4x, d4x, hre⟩ := o5.mx.slices
  subst hre
  clear c20 c21 c22 c23 c24 c25
  have B_26 := hide (bl_st b5 (unhide B_17))
  have Q_27 := hide ((unhide Q_18).below b5)
  have OW_28 := hide ((unhide OW0).below b5)
  have Z29 := hide b5.size
  clear B_17 Q_18 OW0
  have OX0 := hide o5
  clear o5 b5
  have ba : Below w5.heap.size w5 (w5.alloc (.cells #[.slice A1x x.i.length d1x, .slice A2x x.r.length d2x, .slice A3x x.f.length d3x, .slice A4x x.s.length d4x, .int .i64 x.b, .int .i64 x.a] 30)) := bl_al (Below.refl _ _)
  have XC0 := hide (mc_new w5 (.slice A1x x.i.length d1x) (.slice A2x x.r.length d2x) (.slice A3x x.f.length d3x) (.slice A4x x.s.length d4x) x.b x.a 30)
  have Z30 : Hid ((w5.alloc (.cells #[.slice A1x x.i.length d1x, .slice A2x x.r.length d2x, .slice A3x x.f.length d3x, .slice A4x x.s.length d4x, .int .i64 x.b, .int .i64 x.a] 30)).heap.size = w5.heap.size + 1) := hide (by simp)
  have B_31 := hide (bl_st ba (unhide B_26))
  have Q_32 := hide ((unhide Q_27).below ba)
  have OW_33 := hide ((unhide OW_28).below ba)
  have OX_34 := hide ((unhide OX0).below ba)
  have Z35 := hide ba.size
  clear B_26 Q_27 OW_28 OX0
  clear ba
  go_wp2_with fail
  generalize w5.alloc (.cells #[.slice A1x x.i.length d1x, .slice A2x x.r.length d2x, .slice A3x x.f.length d3x, .slice A4x x.s.length d4x, .int .i64 x.b, .int .i64 x.a] 30) = w6 at *
  refine (unhide HTB (unhide HNB).1 w6 ((unhide HB).below (unhide B_31))).mono ?_
  rintro e w7 ⟨u7, rfl, o7, b7⟩
  have B_36 := hide (bl_st b7 (unhide B_31))
  have Q_37 := hide ((unhide Q_32).below b7)
  have OW_38 := hide ((unhide OW_33).below b7)
  have OX_39 := hide ((unhide OX_34).below b7)
  have XC_40 := hide ((unhide XC0).below b7)
  have Z41 := hide b7.size
  clear B_31 Q_32 OW_33 OX_34 XC0
  have OB0 := hide o7
  clear o7 b7
  obtain ⟨_, c42, c43, c44, c45, c46, c47⟩ := unhide XC_40
  go_wp2_with fail
  refine (unhide HIM (unhide HN) (unhide HNB).1 _ _ w7 (unhide OX_39).mx (unhide OB0).strs (unhide B_36)).mono ?_
  rintro e w8 ⟨r8, rfl, o8, b8⟩
  clear c42 c43 c44 c45 c46 c47
  have B_48 := hide (bl_st b8 (unhide B_36))
  have Q_49 := hide ((unhide Q_37).below b8)
  have OW_50 := hide ((unhide OW_38).below b8)
  have OX_51 := hide ((unhide OX_39).below b8)
  have XC_52 := hide ((unhide XC_40).below b8)
  have OB_53 := hide ((unhide OB0).below b8)
  have Z54 := hide b8.size
  clear B_36 Q_37 OW_38 OX_39 XC_40 OB0
  have OG0 := hide o8
  clear o8 b8
  go_wp2_with fail
  refine (unhide HEY _ _ w8 (unhide OG0).strs (unhide OW_50).strs).mono ?_
  rintro e w9 ⟨rfl, kk, hw⟩
  have bb : Below w8.heap.size w8 w9 := by rw [hw]; exact below_drewN (Below.refl _ _) kk
  clear hw
  have B_55 := hide (bl_st bb (unhide B_48))
  have Q_56 := hide ((unhide Q_49).below bb)
  have OW_57 := hide ((unhide OW_50).below bb)
  have OX_58 := hide ((unhide OX_51).below bb)
  have XC_59 := hide ((unhide XC_52).below bb)
  have OB_60 := hide ((unhide OB_53).below bb)
  have OG_61 := hide ((unhide OG0).below bb)
  have Z62 := hide bb.size
  clear B_48 Q_49 OW_50 OX_51 XC_52 OB_53 OG0
  clear bb
  go_wp2
  refine wp_region_held (S := fun W' => Below w9.heap.size w9 W') (by kernel_rfl) ?_
  have hS0 : Below w9.heap.size w9 { w9 with drawn := w9.drawn + 1 } := below_drewN (Below.refl _ _) 1
  refine wpAnyH_take (i := 0) (oi := { dst := some 58, op := Op.load 30 (Operand.tmp 10), type := 30, pos := "exact.go:3589", after := #[], guard := none }) (v := ?_) rfl (by kernel_rfl) (by kernel_rfl) (by kernel_rfl) (fun _ _ _ h => h) (Or.inl ⟨by rfl, ?_⟩) hS0 ?_
  rotate_left
  · intro W hSw
    obtain ⟨_, c0, c1, c2, c3, c4, c5⟩ := (unhide Q_56).below hSw
    obtain ⟨_, e0, e1, e2, e3, e4, e5⟩ := (unhide XC_59).below hSw
    go_simp
    try with_reducible rfl
  simp only [Act.put, List.setIfInBounds_toArray, List.set_cons_zero, List.set_cons_succ]
  refine wpAnyH_take (i := 1) (oi := { dst := some 59, op := Op.load 25 (Operand.tmp 3), type := 25, pos := "exact.go:3589", after := #[], guard := none }) (v := ?_) rfl (by kernel_rfl) (by kernel_rfl) (by kernel_rfl) (fun _ _ _ h => h) (Or.inl ⟨by rfl, ?_⟩) hS0 ?_
  rotate_left
  · intro W hSw
    obtain ⟨_, c0, c1, c2, c3, c4, c5⟩ := (unhide Q_56).below hSw
    obtain ⟨_, e0, e1, e2, e3, e4, e5⟩ := (unhide XC_59).below hSw
    go_simp
    try with_reducible rfl
  simp only [Act.put, List.setIfInBounds_toArray, List.set_cons_zero, List.set_cons_succ]
  refine wpAnyH_one (i := 2) (by kernel_rfl) ?_
  refine wpOp_step (o := { dst := some 60, op := Op.call { callee := Callee.value (Operand.func 7), args := #[Operand.tmp 59], argTypes := #[25] }, type := 30, pos := "exact.go:3589", after := #[{ on := 1, ground := Ground.data }], guard := none }) rfl fun K' hK => step_enterW (by rfl) 7 #[mxo (.slice A1 x.i.length d1) (.slice A2 x.r.length d2) (.slice A3 x.f.length d3) (.slice A4 x.s.length d4) x.b x.a] (by go_simp) ((unhide HTO (unhide HN) _ (((unhide HV).below (unhide B_55)).below hS0)).mono ?_)
  rintro e w10 ⟨u10, rfl, o10, b10⟩
  have s10 := bl_st b10 hS0
  have U10 := hide ((unhide OX_58).below s10).mx
  have V10 := hide o10.mx
  clear b10 o10
  refine ⟨_, rfl, hK _ _ ⟨s10, ?_⟩⟩
  simp only [Act.put, List.setIfInBounds_toArray, List.set_cons_zero, List.set_cons_succ]
  refine wpAnyH_one (i := 3) (by kernel_rfl) ?_
  refine wpOp_step (o := { dst := some 61, op := Op.call { callee := Callee.value (Operand.func 11), args := #[Operand.tmp 58, Operand.tmp 60], argTypes := #[30, 30] }, type := 4, pos := "exact.go:3589", after := #[{ on := 0, ground := Ground.data }, { on := 2, ground := Ground.data }, { on := 2, ground := Ground.chain }], guard := none }) rfl fun K' hK => step_enterW (by rfl) 11 #[mxo (.slice A1x x.i.length d1x) (.slice A2x x.r.length d2x) (.slice A3x x.f.length d3x) (.slice A4x x.s.length d4x) x.b x.a, u10] (by go_simp) ((eq11 _ _ x _ (unhide U10) (unhide V10) (unhide HN)).mono ?_)
  rintro e w11 ⟨rfl, b11⟩
  have s11 := bl_st b11 s10
  clear b11
  refine ⟨_, rfl, hK _ _ ⟨s11, ?_⟩⟩
  simp only [Act.put, List.setIfInBounds_toArray, List.set_cons_zero, List.set_cons_succ]
  refine wpAnyH_take (i := 4) (oi := { dst := some 62, op := Op.unOp UnOp.not 4 (Operand.tmp 61), type := 4, pos := "exact.go:3589", after := #[{ on := 3, ground := Ground.data }], guard := none }) (v := ?_) rfl (by kernel_rfl) (by kernel_rfl) (by kernel_rfl) (fun _ _ _ h => h) (Or.inl ⟨by rfl, ?_⟩) s11 ?_
  rotate_left
  · intro W hSw
    go_simp
    try with_reducible rfl
  simp only [Act.put, List.setIfInBounds_toArray, List.set_cons_zero, List.set_cons_succ]
  refine wpAnyH_done (by kernel_rfl) ?_ _
  have B_63 := hide (bl_st s11 (unhide B_55))
  have Q_64 := hide ((unhide Q_56).below s11)
  have OW_65 := hide ((unhide OW_57).below s11)
  have OX_66 := hide ((unhide OX_58).below s11)
  have XC_67 := hide ((unhide XC_59).below s11)
  have OB_68 := hide ((unhide OB_60).below s11)
  have OG_69 := hide ((unhide OG_61).below s11)
  have Z70 := hide s11.size
  clear B_55 Q_56 OW_57 OX_58 XC_59 OB_60 OG_61
  clear s11 s10 hS0 U10 V10
  go_wp2_with fail
  refine (unhide HTB (unhide HNB).1 w11 ((unhide HB).below (unhide B_63))).mono ?_
  rintro e w12 ⟨u12, rfl, o12, b12⟩
  have B_71 := hide (bl_st b12 (unhide B_63))
  have Q_72 := hide ((unhide Q_64).below b12)
  have OW_73 := hide ((unhide OW_65).below b12)
  have OX_74 := hide ((unhide OX_66).below b12)
  have XC_75 := hide ((unhide XC_67).below b12)
  have OB_76 := hide ((unhide OB_68).below b12)
  have OG_77 := hide ((unhide OG_69).below b12)
  have Z78 := hide b12.size
  clear B_63 Q_64 OW_65 OX_66 XC_67 OB_68 OG_69
  have V12 := hide o12.strs
  clear o12 b12
  go_wp2_with fail
  refine (eq33 _ _ bs w12 (unhide OB_76).strs (unhide V12) (by have := unhide HNB; omega)).mono ?_
  rintro e w13 ⟨rfl, kk, hw⟩
  have bb : Below w12.heap.size w12 w13 := by rw [hw]; exact below_drewN (Below.refl _ _) kk
  clear hw
  have B_79 := hide (bl_st bb (unhide B_71))
  have Q_80 := hide ((unhide Q_72).below bb)
  have OW_81 := hide ((unhide OW_73).below bb)
  have OX_82 := hide ((unhide OX_74).below bb)
  have XC_83 := hide ((unhide XC_75).below bb)
  have OB_84 := hide ((unhide OB_76).below bb)
  have OG_85 := hide ((unhide OG_77).below bb)
  have Z86 := hide bb.size
  clear B_71 Q_72 OW_73 OX_74 XC_75 OB_76 OG_77
  clear bb
  clear V12
  obtain ⟨_, c87, c88, c89, c90, c91, c92⟩ := unhide XC_83
  go_wp2_with fail
  refine (mark12 _ _ _ x w13 (unhide OX_82) (unhide HN) (by have := unhide SZ; have := unhide Z3; have := unhide Z12; have := unhide Z16; have := unhide Z19; have := unhide Z29; have := unhide Z35; have := unhide Z30; have := unhide Z41; have := unhide Z54; have := unhide Z62; have := unhide Z70; have := unhide Z78; have := unhide Z86; omega)).mono ?_
  rintro e w14 ⟨rfl, t14⟩
  clear c87 c88 c89 c90 c91 c92
  clear OX_82
  have B_93 := hide (belowR (unhide B_79) t14 (by have := unhide SZ; have := unhide Z3; have := unhide Z12; have := unhide Z16; have := unhide Z19; have := unhide Z29; have := unhide Z35; have := unhide Z30; have := unhide Z41; have := unhide Z54; have := unhide Z62; have := unhide Z70; have := unhide Z78; have := unhide Z86; omega) (by have := unhide SZ; have := unhide Z3; have := unhide Z12; have := unhide Z16; have := unhide Z19; have := unhide Z29; have := unhide Z35; have := unhide Z30; have := unhide Z41; have := unhide Z54; have := unhide Z62; have := unhide Z70; have := unhide Z78; have := unhide Z86; omega))
  have Q_94 := hide ((unhide Q_80).touchR t14 (by have := unhide SZ; have := unhide Z3; have := unhide Z12; have := unhide Z16; have := unhide Z19; have := unhide Z29; have := unhide Z35; have := unhide Z30; have := unhide Z41; have := unhide Z54; have := unhide Z62; have := unhide Z70; have := unhide Z78; have := unhide Z86; omega))
  have OW_95 := hide ((unhide OW_81).touchR t14 (by have := unhide SZ; have := unhide Z3; have := unhide Z12; have := unhide Z16; have := unhide Z19; have := unhide Z29; have := unhide Z35; have := unhide Z30; have := unhide Z41; have := unhide Z54; have := unhide Z62; have := unhide Z70; have := unhide Z78; have := unhide Z86; omega))
  have XC_96 := hide ((unhide XC_83).touchR t14 (by have := unhide SZ; have := unhide Z3; have := unhide Z12; have := unhide Z16; have := unhide Z19; have := unhide Z29; have := unhide Z35; have := unhide Z30; have := unhide Z41; have := unhide Z54; have := unhide Z62; have := unhide Z70; have := unhide Z78; have := unhide Z86; omega))
  have OB_97 := hide ((unhide OB_84).touchR t14 (by have := unhide SZ; have := unhide Z3; have := unhide Z12; have := unhide Z16; have := unhide Z19; have := unhide Z29; have := unhide Z35; have := unhide Z30; have := unhide Z41; have := unhide Z54; have := unhide Z62; have := unhide Z70; have := unhide Z78; have := unhide Z86; omega))
  have OG_98 := hide ((unhide OG_85).touchR t14 (by have := unhide SZ; have := unhide Z3; have := unhide Z12; have := unhide Z16; have := unhide Z19; have := unhide Z29; have := unhide Z35; have := unhide Z30; have := unhide Z41; have := unhide Z54; have := unhide Z62; have := unhide Z70; have := unhide Z78; have := unhide Z86; omega))
  have Z99 := hide t14.size
  clear B_79 Q_80 OW_81 XC_83 OB_84 OG_85
  clear t14
  have KM := hide (markS _ _ _ bs (1 + mxN x) w14 (unhide OB_97) (by have := unhide HNB; omega) (by have := unhide HNB; omega))
  have e2 : ((1 + mxN x : Nat) : Int) + (bs.length : Int) = ((1 + mxN x + bs.length : Nat) : Int) := by omega
  rw [e2] at KM
  clear e2
  have hk0 : (0 : Int) ≤ ((1 + mxN x + bs.length : Nat) : Int) := by omega
  generalize ((1 + mxN x + bs.length : Nat) : Int) = kk2 at *
  generalize ((1 + mxN x : Nat) : Int) = kk1 at *
  have LB := hide (unhide OB_97).lies
  go_wp2_with fail
  refine (unhide KM).mono ?_
  rintro e w15 ⟨rfl, t15s⟩
  have t15 := TouchR.of_touch t15s (unhide LB) (Nat.le_refl _) (Nat.le_refl _)
  clear t15s KM LB OB_97
  have B_100 := hide (belowR (unhide B_93) t15 (by have := unhide SZ; have := unhide Z3; have := unhide Z12; have := unhide Z16; have := unhide Z19; have := unhide Z29; have := unhide Z35; have := unhide Z30; have := unhide Z41; have := unhide Z54; have := unhide Z62; have := unhide Z70; have := unhide Z78; have := unhide Z86; have := unhide Z99; omega) (by have := unhide SZ; have := unhide Z3; have := unhide Z12; have := unhide Z16; have := unhide Z19; have := unhide Z29; have := unhide Z35; have := unhide Z30; have := unhide Z41; have := unhide Z54; have := unhide Z62; have := unhide Z70; have := unhide Z78; have := unhide Z86; have := unhide Z99; omega))
  have Q_101 := hide ((unhide Q_94).touchR t15 (by have := unhide SZ; have := unhide Z3; have := unhide Z12; have := unhide Z16; have := unhide Z19; have := unhide Z29; have := unhide Z35; have := unhide Z30; have := unhide Z41; have := unhide Z54; have := unhide Z62; have := unhide Z70; have := unhide Z78; have := unhide Z86; have := unhide Z99; omega))
  have OW_102 := hide ((unhide OW_95).touchR t15 (by have := unhide SZ; have := unhide Z3; have := unhide Z12; have := unhide Z16; have := unhide Z19; have := unhide Z29; have := unhide Z35; have := unhide Z30; have := unhide Z41; have := unhide Z54; have := unhide Z62; have := unhide Z70; have := unhide Z78; have := unhide Z86; have := unhide Z99; omega))
  have XC_103 := hide ((unhide XC_96).touchR t15 (by have := unhide SZ; have := unhide Z3; have := unhide Z12; have := unhide Z16; have := unhide Z19; have := unhide Z29; have := unhide Z35; have := unhide Z30; have := unhide Z41; have := unhide Z54; have := unhide Z62; have := unhide Z70; have := unhide Z78; have := unhide Z86; have := unhide Z99; omega))
  have OG_104 := hide ((unhide OG_98).touchR t15 (by have := unhide SZ; have := unhide Z3; have := unhide Z12; have := unhide Z16; have := unhide Z19; have := unhide Z29; have := unhide Z35; have := unhide Z30; have := unhide Z41; have := unhide Z54; have := unhide Z62; have := unhide Z70; have := unhide Z78; have := unhide Z86; have := unhide Z99; omega))
  have Z105 := hide t15.size
  clear B_93 Q_94 OW_95 XC_96 OG_98
  clear t15
  go_wp2_with fail
  refine (unhide HEY _ _ w15 (unhide OG_104).strs (unhide OW_102).strs).mono ?_
  rintro e w16 ⟨rfl, kk, hw⟩
  have bb : Below w15.heap.size w15 w16 := by rw [hw]; exact below_drewN (Below.refl _ _) kk
  clear hw
  have B_106 := hide (bl_st bb (unhide B_100))
  have Q_107 := hide ((unhide Q_101).below bb)
  have OW_108 := hide ((unhide OW_102).below bb)
  have XC_109 := hide ((unhide XC_103).below bb)
  have OG_110 := hide ((unhide OG_104).below bb)
  have Z111 := hide bb.size
  clear B_100 Q_101 OW_102 XC_103 OG_104
  clear bb
  have LG := hide (unhide OG_110).lies
  go_wp2_with fail
  refine (unhide HMY _ _ _ w16 (unhide OG_110)).mono ?_
  rintro e w17 ⟨rfl, o17, t17s⟩
  have t17 := TouchR.of_touch t17s (unhide LG) (Nat.le_refl _) (Nat.le_refl _)
  clear t17s LG OG_110
  have B_112 := hide (belowR (unhide B_106) t17 (by have := unhide SZ; have := unhide Z3; have := unhide Z12; have := unhide Z16; have := unhide Z19; have := unhide Z29; have := unhide Z35; have := unhide Z30; have := unhide Z41; have := unhide Z54; have := unhide Z62; have := unhide Z70; have := unhide Z78; have := unhide Z86; have := unhide Z99; have := unhide Z105; have := unhide Z111; omega) (by have := unhide SZ; have := unhide Z3; have := unhide Z12; have := unhide Z16; have := unhide Z19; have := unhide Z29; have := unhide Z35; have := unhide Z30; have := unhide Z41; have := unhide Z54; have := unhide Z62; have := unhide Z70; have := unhide Z78; have := unhide Z86; have := unhide Z99; have := unhide Z105; have := unhide Z111; omega))
  have Q_113 := hide ((unhide Q_107).touchR t17 (by have := unhide SZ; have := unhide Z3; have := unhide Z12; have := unhide Z16; have := unhide Z19; have := unhide Z29; have := unhide Z35; have := unhide Z30; have := unhide Z41; have := unhide Z54; have := unhide Z62; have := unhide Z70; have := unhide Z78; have := unhide Z86; have := unhide Z99; have := unhide Z105; have := unhide Z111; omega))
  have OW_114 := hide ((unhide OW_108).touchR t17 (by have := unhide SZ; have := unhide Z3; have := unhide Z12; have := unhide Z16; have := unhide Z19; have := unhide Z29; have := unhide Z35; have := unhide Z30; have := unhide Z41; have := unhide Z54; have := unhide Z62; have := unhide Z70; have := unhide Z78; have := unhide Z86; have := unhide Z99; have := unhide Z105; have := unhide Z111; omega))
  have XC_115 := hide ((unhide XC_109).touchR t17 (by have := unhide SZ; have := unhide Z3; have := unhide Z12; have := unhide Z16; have := unhide Z19; have := unhide Z29; have := unhide Z35; have := unhide Z30; have := unhide Z41; have := unhide Z54; have := unhide Z62; have := unhide Z70; have := unhide Z78; have := unhide Z86; have := unhide Z99; have := unhide Z105; have := unhide Z111; omega))
  have Z116 := hide t17.size
  clear B_106 Q_107 OW_108 XC_109
  have OG17 := hide o17
  clear o17 t17
  go_wp2_with fail
  refine (unhide HHY _ w17 (unhide OG17).strs).mono ?_
  rintro e w18 ⟨rfl, b18⟩
  have B_117 := hide (bl_st b18 (unhide B_112))
  have Q_118 := hide ((unhide Q_113).below b18)
  have OW_119 := hide ((unhide OW_114).below b18)
  have XC_120 := hide ((unhide XC_115).below b18)
  have OG_121 := hide ((unhide OG17).below b18)
  have Z122 := hide b18.size
  clear B_112 Q_113 OW_114 XC_115 OG17
  clear b18
  obtain ⟨_, c123, c124, c125, c126, c127, c128⟩ := unhide Q_118
  go_wp2_with fail
  refine (unhide HTO (unhide HN) w18 ((unhide HV).below (unhide B_117))).mono ?_
  rintro e w19 ⟨u19, rfl, o19, b19⟩
  have U19 := hide o19
  clear o19
  clear c123 c124 c125 c126 c127 c128
  have B_129 := hide (bl_st b19 (unhide B_117))
  have Q_130 := hide ((unhide Q_118).below b19)
  have OW_131 := hide ((unhide OW_119).below b19)
  have XC_132 := hide ((unhide XC_120).below b19)
  have OG_133 := hide ((unhide OG_121).below b19)
  have Z134 := hide b19.size
  clear B_117 Q_118 OW_119 XC_120 OG_121
  clear b19
  go_wp2_with fail
  refine (unhide HTB (unhide HNB).1 w19 ((unhide HB).below (unhide B_129))).mono ?_
  rintro e w20 ⟨u20, rfl, o20, b20⟩
  have B_135 := hide (bl_st b20 (unhide B_129))
  have Q_136 := hide ((unhide Q_130).below b20)
  have OW_137 := hide ((unhide OW_131).below b20)
  have XC_138 := hide ((unhide XC_132).below b20)
  have OG_139 := hide ((unhide OG_133).below b20)
  have U_140 := hide ((unhide U19).below b20)
  have Z141 := hide b20.size
  clear B_129 Q_130 OW_131 XC_132 OG_133 U19
  have V20 := hide o20
  clear o20 b20
  go_wp2_with fail
  refine (unhide HIM (unhide HN) (unhide HNB).1 _ _ w20 (unhide U_140).mx (unhide V20).strs (unhide B_135)).mono ?_
  rintro e w21 ⟨r21, rfl, o21, b21⟩
  clear U_140 V20
  have B_142 := hide (bl_st b21 (unhide B_135))
  have Q_143 := hide ((unhide Q_136).below b21)
  have OW_144 := hide ((unhide OW_137).below b21)
  have XC_145 := hide ((unhide XC_138).below b21)
  have OG_146 := hide ((unhide OG_139).below b21)
  have Z147 := hide b21.size
  clear B_135 Q_136 OW_137 XC_138 OG_139
  have OH0 := hide o21
  clear o21 b21
  go_wp2_with fail
  refine (unhide HEY _ _ w21 (unhide OH0).strs (unhide OW_144).strs).mono ?_
  rintro e w22 ⟨rfl, kk, hw⟩
  have bb : Below w21.heap.size w21 w22 := by rw [hw]; exact below_drewN (Below.refl _ _) kk
  clear hw
  have B_148 := hide (bl_st bb (unhide B_142))
  have Q_149 := hide ((unhide Q_143).below bb)
  have OW_150 := hide ((unhide OW_144).below bb)
  have XC_151 := hide ((unhide XC_145).below bb)
  have OG_152 := hide ((unhide OG_146).below bb)
  have OH_153 := hide ((unhide OH0).below bb)
  have Z154 := hide bb.size
  clear B_142 Q_143 OW_144 XC_145 OG_146 OH0
  clear bb
  go_wp2_with fail
  refine (unhide HHY _ w22 (unhide OG_152).strs).mono ?_
  rintro e w23 ⟨rfl, b23⟩
  have B_155 := hide (bl_st b23 (unhide B_148))
  have Q_156 := hide ((unhide Q_149).below b23)
  have OW_157 := hide ((unhide OW_150).below b23)
  have XC_158 := hide ((unhide XC_151).below b23)
  have OG_159 := hide ((unhide OG_152).below b23)
  have OH_160 := hide ((unhide OH_153).below b23)
  have Z161 := hide b23.size
  clear B_148 Q_149 OW_150 XC_151 OG_152 OH_153
  clear b23
  go_wp2
  go_ret
  exact ⟨rfl, unhide B_155⟩
end Go.Proofs.YtggiijlgdpkkfaaDoor
