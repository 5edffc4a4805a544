/- The law of BatchBytes, walked. -/
import Derived.Test.YtgdohkemamlnhaaBatI
namespace Go.Proofs.Ytgdohkemamlnhaa
open Go.RowKit
set_option maxHeartbeats 4000000
set_option maxRecDepth 20000
theorem btL_len (r l : Int) (ts : List ByteArray) : (btL r l ts).length ≤ 2097152 := by
  unfold btL
  by_cases h : okB r l ts = true
  · rw [if_pos h]
    obtain ⟨h64, h400, _⟩ := okB_parts h
    have := flatT_len ts h400 ts.length (Nat.le_refl _)
    rw [List.take_length] at this
    unfold bB
    rw [List.length_append, bH_len]
    omega
  · rw [if_neg h]; simp
theorem law_bt_at (w : World) (r l : Int) (v : Value) (ts : List ByteArray) (hv : strsV w v ts) (hl : ts.length ≤ maxLen) (hs : ∀ t ∈ ts, t.size ≤ maxLen) :
    Calls Try.prog 5 #[btV r l v] w fun e w' => e = .returned (.bool true) ∧ Below w.heap.size w w' := by
  have HB0 := hide (show Below w.heap.size w (w.alloc (.cells #[.int .i64 r, .int .i64 l, v] 36)) from bl_al (Below.refl _ _))
  have HBC := hide (bc_new w r l v 36)
  have HV0 := hide (hv.below (unhide HB0))
  have h15 := hide (sz15 r l v ts _ (unhide HV0) hl hs)
  have HSZ := hide hs
  have HLN := hide (btL_len r l ts)
  obtain ⟨A, cap, rfl, _⟩ := hv
  clear hl hs
  have HTO : Hid (ts.length ≤ 1048576 → ∀ u W, strsV W u ts → Calls Try.prog 17 #[btV r l u] W fun e w' => ∃ u', e = .returned (btV r l u') ∧ ownS W.heap.size w'.heap.size w' u' ts ∧ Below W.heap.size W w') := hide fun hn u W hu => to17 r l u ts W hu (by omega)
  have HSP : Hid (ts.length ≤ 1048576 → ∀ u W, strsV W u ts → Calls Try.prog 16 #[btV r l u] W fun e w' => ∃ x, e = .returned (.tuple #[x, .int .i64 (btC r l ts)]) ∧ ownB W.heap.size w' x (btL r l ts) ∧ Below W.heap.size W w') := hide fun hn u W hu => bb16 r l u ts W hu (unhide HSZ) (by omega)
  have HIM : Hid (ts.length ≤ 1048576 → ∀ u W, strsV W u ts → Calls Try.prog 18 #[btV r l u] W fun e w' => ∃ x, e = .returned (.tuple #[x, .int .i64 (btC r l ts)]) ∧ ownB W.heap.size w' x (btL r l ts) ∧ Below W.heap.size W w') := hide fun hn u W hu => bbI r l u ts W hu (unhide HSZ) (by omega)
  generalize btC r l ts = C at *
  generalize btL r l ts = L at *
  have l0 : (0 : Int) ≤ (L.length : Int) := by omega
  have n0 : (0 : Int) ≤ (ts.length : Int) := by omega
  obtain ⟨_, d0, d1, d2⟩ := unhide HBC
  go_enter Try.func5, Try.ntmps5
  go_wp2_with fail
  generalize w.alloc (.cells #[.int .i64 r, .int .i64 l, .slice A ts.length cap] 36) = w0 at *
  refine (unhide h15).mono ?_
  rintro e w1 ⟨z, rfl, hz, b1⟩
  have B1 := hide b1
  have HZ := hide hz
  clear hz b1 h15 d0 d1 d2
  obtain ⟨_, d0, d1, d2⟩ := (unhide HBC).below (unhide B1)
  by_cases hneg : z < 0
  · go_wp2
    go_ret
    exact ⟨rfl, bl_st (unhide B1) (unhide HB0)⟩
  have HN := hide (Or.resolve_left (unhide HZ) hneg)
  have hge : 0 ≤ z := by omega
  clear hneg
  go_wp2_with fail
  refine (unhide HTO (unhide HN) _ w1 ((unhide HV0).below (unhide B1))).mono ?_
  rintro e w2 ⟨u1, rfl, o2, b2⟩
  have B2 := hide (bl_st b2 (unhide B1))
  have U2 := hide o2.strs
  clear o2 b2 B1 d0 d1 d2
  go_wp2_with fail
  refine (unhide HSP (unhide HN) _ w2 (unhide U2)).mono ?_
  rintro e w3 ⟨gw, rfl, o3, b3⟩
  have B3 := hide (bl_st b3 (unhide B2))
  have SW3 := hide o3.within
  clear o3 b3 B2 U2
  obtain ⟨_, d0, d1, d2⟩ := (unhide HBC).below (unhide B3)
  go_wp2_with fail
  refine (unhide HTO (unhide HN) _ w3 ((unhide HV0).below (unhide B3))).mono ?_
  rintro e w4 ⟨u, rfl, o4, b4⟩
  obtain ⟨Au, nu, cu, rfl⟩ : ∃ A' n' cap', u = .slice A' n' cap' := by
    obtain ⟨A', cap', e, _⟩ := o4.strs
    exact ⟨_, _, _, e⟩
  have b4' : Below w3.heap.size w3 (w4.alloc (.cells #[.int .i64 r, .int .i64 l, .slice Au nu cu] 39)) := bl_al b4
  have B4 := hide (bl_st b4' (unhide B3))
  have U4 := hide (o4.below (bl_al (o := .cells #[.int .i64 r, .int .i64 l, .slice Au nu cu] 39) (Below.refl _ _)))
  have SW4 := hide ((unhide SW3).below b4')
  have X4 := hide (bc_new w4 r l (.slice Au nu cu) 39)
  have HI4 := hide (show w4.heap.size ≤ (w4.alloc (.cells #[.int .i64 r, .int .i64 l, .slice Au nu cu] 39)).heap.size by simp)
  have LO4 := hide b4.size
  have LO3 := hide (unhide B3).size
  clear o4 b4 b4' B3 SW3 d0 d1 d2
  obtain ⟨_, x0, x1, x2⟩ := unhide X4
  go_wp2_with fail
  generalize w4.alloc (.cells #[.int .i64 r, .int .i64 l, .slice Au nu cu] 39) = w4' at *
  generalize w4.heap.size = p6 at *
  refine (unhide HIM (unhide HN) _ w4' (unhide U4).strs).mono ?_
  rintro e w5 ⟨g0, rfl, o5, b5⟩
  have B5 := hide (bl_st b5 (unhide B4))
  have U5 := hide ((unhide U4).below b5)
  have SW5 := hide ((unhide SW4).below b5)
  have SG5 := hide o5.within
  have X5 := hide ((unhide X4).below b5)
  have LB4 := hide (unhide B4).size
  clear o5 b5 B4 U4 SW4 X4 x0 x1 x2
  go_wp2_with fail
  refine (eq16 g0 gw L w5 (unhide SG5).bytes (unhide SW5).bytes (unhide HLN)).mono ?_
  rintro e w6 ⟨rfl, k6, rfl⟩
  have b6 := below_drewN (Below.refl w5.heap.size w5) k6
  have B6 := hide (bl_st b6 (unhide B5))
  have U6 := hide ((unhide U5).below b6)
  have SW6 := hide ((unhide SW5).below b6)
  have SG6 := hide ((unhide SG5).below b6)
  have X6 := hide ((unhide X5).below b6)
  generalize w5.drewN k6 = w6 at *
  clear b6 B5 U5 SW5 SG5 X5
  go_wp2
  refine wp_region_held (S := fun W' => Below w6.heap.size w6 W') (by kernel_rfl) ?_
  have hS0 : Below w6.heap.size w6 { w6 with drawn := w6.drawn + 1 } := below_drewN (Below.refl _ _) 1
  refine wpAnyH_take (i := 0) (oi := { dst := some 41, op := Op.load 39 (Operand.tmp 6), type := 39, pos := "exact.go:2220", after := #[], guard := none }) (v := ?_) rfl (by kernel_rfl) (by kernel_rfl) (by kernel_rfl) (fun _ _ _ h => h) (Or.inl ⟨by rfl, ?_⟩) hS0 ?_
  rotate_left
  · intro W hSw
    obtain ⟨_, x0, x1, x2⟩ := (unhide X6).below hSw
    obtain ⟨_, d0, d1, d2⟩ := (unhide HBC).below (bl_st hSw (unhide B6))
    go_simp
    try with_reducible rfl
  simp only [Act.put, List.setIfInBounds_toArray, List.set_cons_zero, List.set_cons_succ]
  refine wpAnyH_take (i := 1) (oi := { dst := some 42, op := Op.load 36 (Operand.tmp 1), type := 36, pos := "exact.go:2220", after := #[], guard := none }) (v := ?_) rfl (by kernel_rfl) (by kernel_rfl) (by kernel_rfl) (fun _ _ _ h => h) (Or.inl ⟨by rfl, ?_⟩) hS0 ?_
  rotate_left
  · intro W hSw
    obtain ⟨_, x0, x1, x2⟩ := (unhide X6).below hSw
    obtain ⟨_, d0, d1, d2⟩ := (unhide HBC).below (bl_st hSw (unhide B6))
    go_simp
    try with_reducible rfl
  simp only [Act.put, List.setIfInBounds_toArray, List.set_cons_zero, List.set_cons_succ]
  refine wpAnyH_one (i := 2) (by kernel_rfl) ?_
  refine wpOp_step (o := { dst := some 43, op := Op.call { callee := Callee.value (Operand.func 17), args := #[Operand.tmp 42], argTypes := #[36] }, type := 39, pos := "exact.go:2220", after := #[{ on := 1, ground := Ground.data }], guard := none }) rfl fun K' hK => step_enterW (by rfl) 17 #[btV r l (.slice A ts.length cap)] (by go_simp) ((unhide HTO (unhide HN) _ _ ((unhide HV0).below (bl_st hS0 (unhide B6)))).mono ?_)
  rintro e w7 ⟨u7, rfl, o7, b7⟩
  have s7 := bl_st b7 hS0
  have U7 := hide o7.strs
  clear o7 b7
  refine ⟨_, rfl, hK _ _ ⟨s7, ?_⟩⟩
  simp only [Act.put, List.setIfInBounds_toArray, List.set_cons_zero, List.set_cons_succ]
  refine wpAnyH_one (i := 3) (by kernel_rfl) ?_
  refine wpOp_step (o := { dst := some 44, op := Op.call { callee := Callee.value (Operand.func 19), args := #[Operand.tmp 41, Operand.tmp 43], argTypes := #[39, 39] }, type := 4, pos := "exact.go:2220", after := #[{ on := 0, ground := Ground.data }, { on := 2, ground := Ground.data }, { on := 2, ground := Ground.chain }], guard := none }) rfl fun K' hK => step_enterW (by rfl) 19 #[btV r l (.slice Au nu cu), btV r l u7] (by go_simp) ((eq19 r l _ _ ts w7 ((unhide U6).strs.below s7) (unhide U7) (by have := unhide HN; omega)).mono ?_)
  rintro e w8 ⟨rfl, b8⟩
  have s8 := bl_st b8 s7
  clear b8
  refine ⟨_, rfl, hK _ _ ⟨s8, ?_⟩⟩
  simp only [Act.put, List.setIfInBounds_toArray, List.set_cons_zero, List.set_cons_succ]
  refine wpAnyH_take (i := 4) (oi := { dst := some 45, op := Op.unOp UnOp.not 4 (Operand.tmp 44), type := 4, pos := "exact.go:2220", after := #[{ on := 3, ground := Ground.data }], guard := none }) (v := ?_) rfl (by kernel_rfl) (by kernel_rfl) (by kernel_rfl) (fun _ _ _ h => h) (Or.inl ⟨by rfl, ?_⟩) s8 ?_
  rotate_left
  · intro W hSw
    obtain ⟨_, x0, x1, x2⟩ := (unhide X6).below hSw
    obtain ⟨_, d0, d1, d2⟩ := (unhide HBC).below (bl_st hSw (unhide B6))
    go_simp
    try with_reducible rfl
  simp only [Act.put, List.setIfInBounds_toArray, List.set_cons_zero, List.set_cons_succ]
  refine wpAnyH_done (by kernel_rfl) ?_ _
  have B8 := hide (bl_st s8 (unhide B6))
  have U8 := hide ((unhide U6).below s8)
  have SW8 := hide ((unhide SW6).below s8)
  have SG8 := hide ((unhide SG6).below s8)
  obtain ⟨_, x0, x1, x2⟩ := (unhide X6).below s8
  clear s7 s8 U7 hS0 B6 U6 SW6 SG6 X6
  go_wp2_with fail
  refine (mark20 _ _ r l _ ts w8 (unhide U8) (by have := unhide HN; omega)).mono ?_
  rintro e w9 ⟨rfl, _, t9⟩
  have B9 := hide (belowS (unhide B8) t9 (unhide U8).lies (unhide LO3) (unhide B8).size)
  have SW9 := hide ((unhide SW8).touchS t9 (unhide U8).lies (.inl (Nat.le_refl _)))
  have SG9 := hide ((unhide SG8).touchS t9 (unhide U8).lies (.inr (unhide HI4)))
  clear t9 B8 U8 SW8 SG8 x0 x1 x2
  go_wp2_with fail
  refine (eq16 g0 gw L w9 (unhide SG9).bytes (unhide SW9).bytes (unhide HLN)).mono ?_
  rintro e w10 ⟨rfl, k10, rfl⟩
  have b10 := below_drewN (Below.refl w9.heap.size w9) k10
  have B10 := hide (bl_st b10 (unhide B9))
  have SW10 := hide ((unhide SW9).below b10)
  have SG10 := hide ((unhide SG9).below b10)
  generalize w9.drewN k10 = w10 at *
  clear b10 B9 SW9 SG9
  go_wp2_with fail
  refine (mark17 _ g0 L w10 (unhide SG10).ownB (unhide HLN)).mono ?_
  rintro e w11 ⟨rfl, o11, t11⟩
  have B11 := hide (below_touch (unhide B10) t11 (unhide SG10).lies (unhide LB4))
  have SW11 := hide ((unhide SW10).touch t11 (unhide SG10).lies (.inl (Nat.le_trans (unhide LO4) (unhide HI4))))
  have SM11 := hide o11.within
  clear t11 o11 SW10 SG10 B10
  go_wp2_with fail
  refine (held18 g0 L.length w11 (unhide SM11).bytes (unhide HLN)).mono ?_
  rintro e w12 ⟨rfl, rfl⟩
  obtain ⟨_, d0, d1, d2⟩ := (unhide HBC).below (unhide B11)
  go_wp2_with fail
  refine (unhide HTO (unhide HN) _ w12 ((unhide HV0).below (unhide B11))).mono ?_
  rintro e w13 ⟨u13, rfl, o13, b13⟩
  have B13 := hide (bl_st b13 (unhide B11))
  have U13 := hide o13.strs
  have SW13 := hide ((unhide SW11).below b13)
  have SM13 := hide ((unhide SM11).below b13)
  clear o13 b13 B11 SW11 SM11 d0 d1 d2
  go_wp2_with fail
  refine (unhide HIM (unhide HN) _ w13 (unhide U13)).mono ?_
  rintro e w14 ⟨h14, rfl, o14, b14⟩
  have B14 := hide (bl_st b14 (unhide B13))
  have SH14 := hide o14.bytes
  have SW14 := hide ((unhide SW13).below b14)
  have SM14 := hide ((unhide SM13).below b14)
  clear o14 b14 B13 SW13 SM13 U13
  go_wp2_with fail
  refine (eq16 h14 gw L w14 (unhide SH14) (unhide SW14).bytes (unhide HLN)).mono ?_
  rintro e w15 ⟨rfl, k15, rfl⟩
  have b15 := below_drewN (Below.refl w14.heap.size w14) k15
  have B15 := hide (bl_st b15 (unhide B14))
  have SM15 := hide ((unhide SM14).below b15)
  generalize w14.drewN k15 = w15 at *
  clear b15 B14 SW14 SM14 SH14
  go_wp2_with fail
  refine (held18 g0 L.length w15 (unhide SM15).bytes (unhide HLN)).mono ?_
  rintro e w16 ⟨rfl, rfl⟩
  go_wp2
  go_ret
  exact ⟨rfl, bl_st (unhide B15) (unhide HB0)⟩
end Go.Proofs.Ytgdohkemamlnhaa
