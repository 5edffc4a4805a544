/- The law of RoundOK, walked. -/
import Derived.Test.YtkefbmcipdiieaaRoi
namespace Go.Proofs.Ytkefbmcipdiieaa
open Go.RowKit
set_option maxHeartbeats 4000000
set_option maxRecDepth 20000
theorem law_ok (w : World) (v : Value) (x : Rs) (hv : rsV w v x) (hf : rsFits x) :
    Calls Try.prog 3 #[v] w fun e w' => e = .returned (.bool true) ∧ Below w.heap.size w w' := by
  obtain ⟨p, b, rfl, hp, hb⟩ := hv
  have B0 : Below w.heap.size w (w.alloc (.cells #[.string x.s, .int .i64 x.rd, .int .i64 x.ly, p, b, .int .i64 x.m, .int .i64 x.a, .int .i64 x.d, .int .i64 x.c, .int .i64 x.t] 25)) := bl_al (Below.refl _ _)
  have hv : rsV w (rsA x.s x.rd x.ly p b x.m x.a x.d x.c x.t) x := ⟨p, b, rfl, hp, hb⟩
  have h6 := hide (sz4 (rsA x.s x.rd x.ly p b x.m x.a x.d x.c x.t) x _ (hv.below B0) hf)
  have C := rc_new w x.s x.rd x.ly p b x.m x.a x.d x.c x.t 25
  have HC := hide C
  have HV := hide hv
  have HB := hide B0
  have HTO : Hid (x.p.length ≤ 1048576 ∧ x.b.length ≤ 1048576 → ∀ W, rsV W (rsA x.s x.rd x.ly p b x.m x.a x.d x.c x.t) x → Calls Try.prog 6 #[rsA x.s x.rd x.ly p b x.m x.a x.d x.c x.t] W fun e w' => ∃ r, e = .returned r ∧ rsV w' r x ∧ Below W.heap.size W w') := hide fun hn W hu => to6r _ x W hu hn.1 hn.2
  have HSP : Hid (x.p.length ≤ 1048576 ∧ x.b.length ≤ 1048576 → ∀ u W, rsV W u x → Calls Try.prog 5 #[u] W fun e w' => e = .returned (.bool (okR x)) ∧ Below W.heap.size W w') := hide fun hn u W hu => ok5 u x W hu hn.1 hn.2
  have HIM : Hid (x.p.length ≤ 1048576 ∧ x.b.length ≤ 1048576 → ∀ u W, rsV W u x → Calls Try.prog 7 #[u] W fun e w' => e = .returned (.bool (okR x)) ∧ Below W.heap.size W w') := hide fun hn u W hu => ok7 u x W hu hn.1 hn.2
  have HEQ : Hid (x.p.length ≤ 1048576 ∧ x.b.length ≤ 1048576 → ∀ u u' W, rsV W u x → rsV W u' x → Calls Try.prog 8 #[u, u'] W fun e w' => e = .returned (.bool true) ∧ Below W.heap.size W w') := hide fun hn u u' W hu hu' => eq8r u u' x W hu hu' hn.1 hn.2
  generalize okR x = bb at *
  clear hf hv B0
  obtain ⟨s, rd, ly, xp, xb, m, a, d, c, t⟩ := x
  dsimp only at *
  obtain ⟨A1, d1, rfl⟩ := hp.slice
  obtain ⟨A2, d2, rfl⟩ := hb.slice
  clear hp hb
  obtain ⟨_, c0, c1, c2, c3, c4, c5, c6, c7, c8, c9⟩ := C
  go_enter Try.func3, Try.ntmps3
  go_wp2_with fail
  generalize w.alloc (.cells #[.string s, .int .i64 rd, .int .i64 ly, .slice A1 xp.length d1, .slice A2 xb.length d2, .int .i64 m, .int .i64 a, .int .i64 d, .int .i64 c, .int .i64 t] 25) = w0 at *
  refine (unhide h6).mono ?_
  rintro e w1 ⟨z, rfl, hz, b1⟩
  have B1 := hide (bl_st b1 (unhide HB))
  have C1 := hide ((unhide HC).below b1)
  have HZ := hide hz
  clear hz b1 h6 c0 c1 c2 c3 c4 c5 c6 c7 c8 c9 HB HC
  by_cases hneg : z < 0
  · go_wp2
    go_ret
    exact ⟨rfl, unhide B1⟩
  have HN := hide (Or.resolve_left (unhide HZ) hneg)
  have hge : 0 ≤ z := by omega
  clear hneg
  obtain ⟨_, c0, c1, c2, c3, c4, c5, c6, c7, c8, c9⟩ := unhide C1
  go_wp2_with fail
  refine (unhide HTO (unhide HN) w1 ((unhide HV).below (unhide B1))).mono ?_
  rintro e w2 ⟨u1, rfl, o2, b2⟩
  have B2 := hide (bl_st b2 (unhide B1))
  have U2 := hide o2
  have C2 := hide ((unhide C1).below b2)
  clear b2 B1 C1 o2 c0 c1 c2 c3 c4 c5 c6 c7 c8 c9
  go_wp2_with fail
  refine (unhide HSP (unhide HN) _ w2 (unhide U2)).mono ?_
  rintro e w3 ⟨rfl, b3⟩
  have B3 := hide (bl_st b3 (unhide B2))
  have C3 := hide ((unhide C2).below b3)
  clear b3 B2 U2 C2
  obtain ⟨_, c0, c1, c2, c3, c4, c5, c6, c7, c8, c9⟩ := unhide C3
  go_wp2_with fail
  refine (unhide HTO (unhide HN) w3 ((unhide HV).below (unhide B3))).mono ?_
  rintro e w4 ⟨u, rfl, o4, b4⟩
  have U4 := o4
  obtain ⟨p2, q2, rfl, oa2, ob2⟩ := o4
  obtain ⟨E2, ca2, rfl⟩ := oa2.slice
  obtain ⟨F2, cb2, rfl⟩ := ob2.slice
  clear oa2 ob2
  dsimp only at *
  have BA : Below w4.heap.size w4 (w4.alloc (.cells #[.string s, .int .i64 rd, .int .i64 ly, .slice E2 xp.length ca2, .slice F2 xb.length cb2, .int .i64 m, .int .i64 a, .int .i64 d, .int .i64 c, .int .i64 t] 28)) := bl_al (Below.refl _ _)
  have B4 := hide (bl_st BA (bl_st b4 (unhide B3)))
  have U4 := hide (U4.below BA)
  have C4 := hide (((unhide C3).below b4).below BA)
  have D := rc_new w4 s rd ly (.slice E2 xp.length ca2) (.slice F2 xb.length cb2) m a d c t 28
  have D4 := hide D
  clear b4 B3 C3 BA c0 c1 c2 c3 c4 c5 c6 c7 c8 c9
  obtain ⟨_, e0, e1, e2, e3, e4, e5, e6, e7, e8, e9⟩ := D
  go_wp2_with fail
  generalize hw4 : w4.alloc (.cells #[.string s, .int .i64 rd, .int .i64 ly, .slice E2 xp.length ca2, .slice F2 xb.length cb2, .int .i64 m, .int .i64 a, .int .i64 d, .int .i64 c, .int .i64 t] 28) = w4' at *
  refine (unhide HIM (unhide HN) _ w4' (unhide U4)).mono ?_
  rintro e w5 ⟨rfl, b5⟩
  have B5 := hide (bl_st b5 (unhide B4))
  have C5 := hide ((unhide C4).below b5)
  have D5 := hide ((unhide D4).below b5)
  have U5 := hide ((unhide U4).below b5)
  have V5 := hide ((unhide HV).below (unhide B5))
  clear b5 B4 C4 D4 U4 e0 e1 e2 e3 e4 e5 e6 e7 e8 e9 hw4 HV
  go_wp2
  refine wp_region_held (S := fun W' => Below w5.heap.size w5 W') (by kernel_rfl) ?_
  have hS0 : Below w5.heap.size w5 { w5 with drawn := w5.drawn + 1 } := below_drewN (Below.refl _ _) 1
  refine wpAnyH_take (i := 0) (oi := { dst := some 22, op := Op.load 28 (Operand.tmp 5), type := 28, pos := "exact.go:4048", after := #[], guard := none }) (v := ?_) rfl (by kernel_rfl) (by kernel_rfl) (by kernel_rfl) (fun _ _ _ h => h) (Or.inl ⟨by rfl, ?_⟩) hS0 ?_
  rotate_left
  · intro W hSw
    obtain ⟨_, c0, c1, c2, c3, c4, c5, c6, c7, c8, c9⟩ := (unhide C5).below hSw
    obtain ⟨_, e0, e1, e2, e3, e4, e5, e6, e7, e8, e9⟩ := (unhide D5).below hSw
    go_simp
    try with_reducible rfl
  simp only [Act.put, List.setIfInBounds_toArray, List.set_cons_zero, List.set_cons_succ]
  refine wpAnyH_take (i := 1) (oi := { dst := some 23, op := Op.load 25 (Operand.tmp 1), type := 25, pos := "exact.go:4048", after := #[], guard := none }) (v := ?_) rfl (by kernel_rfl) (by kernel_rfl) (by kernel_rfl) (fun _ _ _ h => h) (Or.inl ⟨by rfl, ?_⟩) hS0 ?_
  rotate_left
  · intro W hSw
    obtain ⟨_, c0, c1, c2, c3, c4, c5, c6, c7, c8, c9⟩ := (unhide C5).below hSw
    obtain ⟨_, e0, e1, e2, e3, e4, e5, e6, e7, e8, e9⟩ := (unhide D5).below hSw
    go_simp
    try with_reducible rfl
  simp only [Act.put, List.setIfInBounds_toArray, List.set_cons_zero, List.set_cons_succ]
  refine wpAnyH_one (i := 2) (by kernel_rfl) ?_
  refine wpOp_step (o := { dst := some 24, op := Op.call { callee := Callee.value (Operand.func 6), args := #[Operand.tmp 23], argTypes := #[25] }, type := 28, pos := "exact.go:4048", after := #[{ on := 1, ground := Ground.data }], guard := none }) rfl fun K' hK => step_enterW (by rfl) 6 #[rsA s rd ly (.slice A1 xp.length d1) (.slice A2 xb.length d2) m a d c t] (by go_simp) ((unhide HTO (unhide HN) _ ((unhide V5).below hS0)).mono ?_)
  rintro e w6 ⟨u6, rfl, o6, b6⟩
  have s6 := bl_st b6 hS0
  have U6 := hide ((unhide U5).below s6)
  have V6 := hide o6
  clear b6 o6
  refine ⟨_, rfl, hK _ _ ⟨s6, ?_⟩⟩
  simp only [Act.put, List.setIfInBounds_toArray, List.set_cons_zero, List.set_cons_succ]
  refine wpAnyH_one (i := 3) (by kernel_rfl) ?_
  refine wpOp_step (o := { dst := some 25, op := Op.call { callee := Callee.value (Operand.func 8), args := #[Operand.tmp 22, Operand.tmp 24], argTypes := #[28, 28] }, type := 4, pos := "exact.go:4048", after := #[{ on := 0, ground := Ground.data }, { on := 2, ground := Ground.data }, { on := 2, ground := Ground.chain }], guard := none }) rfl fun K' hK => step_enterW (by rfl) 8 #[rsA s rd ly (.slice E2 xp.length ca2) (.slice F2 xb.length cb2) m a d c t, u6] (by go_simp) ((unhide HEQ (unhide HN) _ _ _ (unhide U6) (unhide V6)).mono ?_)
  rintro e w7 ⟨rfl, b7⟩
  have s7 := bl_st b7 s6
  clear b7
  refine ⟨_, rfl, hK _ _ ⟨s7, ?_⟩⟩
  simp only [Act.put, List.setIfInBounds_toArray, List.set_cons_zero, List.set_cons_succ]
  refine wpAnyH_take (i := 4) (oi := { dst := some 26, op := Op.unOp UnOp.not 4 (Operand.tmp 25), type := 4, pos := "exact.go:4048", after := #[{ on := 3, ground := Ground.data }], guard := none }) (v := ?_) rfl (by kernel_rfl) (by kernel_rfl) (by kernel_rfl) (fun _ _ _ h => h) (Or.inl ⟨by rfl, ?_⟩) s7 ?_
  rotate_left
  · intro W hSw
    go_simp
    try with_reducible rfl
  simp only [Act.put, List.setIfInBounds_toArray, List.set_cons_zero, List.set_cons_succ]
  refine wpAnyH_done (by kernel_rfl) ?_ _
  have B7 := hide (bl_st s7 (unhide B5))
  clear s6 s7 hS0
  go_wp2
  go_ret
  exact ⟨rfl, unhide B7⟩
end Go.Proofs.Ytkefbmcipdiieaa
