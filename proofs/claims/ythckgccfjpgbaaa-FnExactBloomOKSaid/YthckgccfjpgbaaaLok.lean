/- The law of BloomOK, walked. -/
import Derived.Test.YthckgccfjpgbaaaOku
namespace Go.Proofs.Ythckgccfjpgbaaa
open Go.RowKit
set_option maxHeartbeats 4000000
set_option maxRecDepth 20000
theorem law_ok (w : World) (v : Value) (x : Blm) (hv : blmV w v x) (hl : x.s.length ≤ maxLen) (hl' : x.b.length ≤ maxLen) :
    Calls Try.prog 7 #[v] w fun e w' => e = .returned (.bool true) ∧ Below w.heap.size w w' := by
  obtain ⟨a, b, rfl, ha, hb⟩ := hv
  have B0 : Below w.heap.size w (w.alloc (.cells #[.int .i64 x.p, .int .i64 x.w, a, b] 52)) := bl_al (Below.refl _ _)
  have hv : blmV w (bloV x.p x.w a b) x := ⟨a, b, rfl, ha, hb⟩
  have h6 := hide (sz36 (bloV x.p x.w a b) x 1048576 _ (hv.below B0) hl hl' (by omega) (by omega))
  have C := bc_new w x.p x.w a b 52
  have HC := hide C
  have HV := hide hv
  have HB := hide B0
  have HTO : Hid (x.s.length + x.b.length ≤ 1048576 → ∀ W, blmV W (bloV x.p x.w a b) x → Calls Try.prog 38 #[bloV x.p x.w a b] W fun e w' => ∃ r, e = .returned r ∧ ownX W.heap.size w'.heap.size w' r x ∧ Below W.heap.size W w') := hide fun hn W hu => to38 _ x W hu (by omega) (by omega)
  have HSP : Hid (x.s.length + x.b.length ≤ 1048576 → ∀ u W, blmV W u x → Calls Try.prog 37 #[u] W fun e w' => e = .returned (.bool (okX x)) ∧ Below W.heap.size W w') := hide fun hn u W hu => ok37 u x W hu (by omega) (by omega)
  have HIM : Hid (x.s.length + x.b.length ≤ 1048576 → ∀ u W, blmV W u x → Calls Try.prog 15 #[u] W fun e w' => e = .returned (.bool (okX x)) ∧ Below W.heap.size W w') := hide fun hn u W hu => ok15 u x W hu (by omega) (by omega)
  have HEQ : Hid (x.s.length + x.b.length ≤ 1048576 → ∀ u u' W, blmV W u x → blmV W u' x → Calls Try.prog 31 #[u, u'] W fun e w' => e = .returned (.bool true) ∧ Below W.heap.size W w') := hide fun hn u u' W hu hu' => eq31 u u' x W hu hu' (by omega) (by omega)
  generalize okX x = bb at *
  clear hl hl' hv ha hb B0
  obtain ⟨p, wd, ss, bs⟩ := x
  dsimp only at *
  obtain ⟨_, c0, c1, c2, c3⟩ := C
  go_enter Try.func7, Try.ntmps7
  go_wp2_with fail
  generalize w.alloc (.cells #[.int .i64 p, .int .i64 wd, a, b] 52) = w0 at *
  refine (unhide h6).mono ?_
  rintro e w1 ⟨z, rfl, hz, b1⟩
  have B1 := hide (bl_st b1 (unhide HB))
  have C1 := hide ((unhide HC).below b1)
  have HZ := hide hz
  clear hz b1 h6 c0 c1 c2 c3 HB HC
  by_cases hneg : z < 0
  · go_wp2
    go_ret
    exact ⟨rfl, unhide B1⟩
  have HN := hide (Or.resolve_left (unhide HZ) hneg).2.2
  have hge : 0 ≤ z := by omega
  clear hneg
  obtain ⟨_, c0, c1, c2, c3⟩ := unhide C1
  go_wp2_with fail
  refine (unhide HTO (unhide HN) w1 ((unhide HV).below (unhide B1))).mono ?_
  rintro e w2 ⟨u1, rfl, o2, b2⟩
  have B2 := hide (bl_st b2 (unhide B1))
  have U2 := hide o2.blm
  have C2 := hide ((unhide C1).below b2)
  clear b2 B1 C1 o2 c0 c1 c2 c3
  go_wp2_with fail
  refine (unhide HSP (unhide HN) _ w2 (unhide U2)).mono ?_
  rintro e w3 ⟨rfl, b3⟩
  have B3 := hide (bl_st b3 (unhide B2))
  have C3 := hide ((unhide C2).below b3)
  clear b3 B2 U2 C2
  obtain ⟨_, c0, c1, c2, c3⟩ := unhide C3
  go_wp2_with fail
  refine (unhide HTO (unhide HN) w3 ((unhide HV).below (unhide B3))).mono ?_
  rintro e w4 ⟨u, rfl, o4, b4⟩
  have U4 := o4.blm
  obtain ⟨a2, b2, rfl, oa2, ob2, _⟩ := o4
  obtain ⟨A2, ca2, rfl⟩ := oa2.salts.slice
  obtain ⟨B2, cb2, rfl⟩ := ob2.bools.slice
  clear oa2 ob2
  have BA : Below w4.heap.size w4 (w4.alloc (.cells #[.int .i64 p, .int .i64 wd, .slice A2 ss.length ca2, .slice B2 bs.length cb2] 26)) := bl_al (Below.refl _ _)
  have B4 := hide (bl_st BA (bl_st b4 (unhide B3)))
  have U4 := hide (U4.below BA)
  have C4 := hide (((unhide C3).below b4).below BA)
  have D := bc_new w4 p wd (.slice A2 ss.length ca2) (.slice B2 bs.length cb2) 26
  have D4 := hide D
  clear b4 B3 C3 BA c0 c1 c2 c3
  obtain ⟨_, d0, d1, d2, d3⟩ := D
  go_wp2_with fail
  generalize hw4 : w4.alloc (.cells #[.int .i64 p, .int .i64 wd, .slice A2 ss.length ca2, .slice B2 bs.length cb2] 26) = w4' at *
  refine (unhide HIM (unhide HN) _ w4' (unhide U4)).mono ?_
  rintro e w5 ⟨rfl, b5⟩
  have B5 := hide (bl_st b5 (unhide B4))
  have C5 := hide ((unhide C4).below b5)
  have D5 := hide ((unhide D4).below b5)
  have U5 := hide ((unhide U4).below b5)
  have V5 := hide ((unhide HV).below (unhide B5))
  clear b5 B4 C4 D4 U4 d0 d1 d2 d3 hw4 HV
  go_wp2
  refine wp_region_held (S := fun W' => Below w5.heap.size w5 W') (by kernel_rfl) ?_
  have hS0 : Below w5.heap.size w5 { w5 with drawn := w5.drawn + 1 } := below_drewN (Below.refl _ _) 1
  refine wpAnyH_take (i := 0) (oi := { dst := some 22, op := Op.load 26 (Operand.tmp 5), type := 26, pos := "exact.go:3158", after := #[], guard := none }) (v := ?_) rfl (by kernel_rfl) (by kernel_rfl) (by kernel_rfl) (fun _ _ _ h => h) (Or.inl ⟨by rfl, ?_⟩) hS0 ?_
  rotate_left
  · intro W hSw
    obtain ⟨_, c0, c1, c2, c3⟩ := (unhide C5).below hSw
    obtain ⟨_, d0, d1, d2, d3⟩ := (unhide D5).below hSw
    go_simp
    try with_reducible rfl
  simp only [Act.put, List.setIfInBounds_toArray, List.set_cons_zero, List.set_cons_succ]
  refine wpAnyH_take (i := 1) (oi := { dst := some 23, op := Op.load 52 (Operand.tmp 1), type := 52, pos := "exact.go:3158", after := #[], guard := none }) (v := ?_) rfl (by kernel_rfl) (by kernel_rfl) (by kernel_rfl) (fun _ _ _ h => h) (Or.inl ⟨by rfl, ?_⟩) hS0 ?_
  rotate_left
  · intro W hSw
    obtain ⟨_, c0, c1, c2, c3⟩ := (unhide C5).below hSw
    obtain ⟨_, d0, d1, d2, d3⟩ := (unhide D5).below hSw
    go_simp
    try with_reducible rfl
  simp only [Act.put, List.setIfInBounds_toArray, List.set_cons_zero, List.set_cons_succ]
  refine wpAnyH_one (i := 2) (by kernel_rfl) ?_
  refine wpOp_step (o := { dst := some 24, op := Op.call { callee := Callee.value (Operand.func 38), args := #[Operand.tmp 23], argTypes := #[52] }, type := 26, pos := "exact.go:3158", after := #[{ on := 1, ground := Ground.data }], guard := none }) rfl fun K' hK => step_enterW (by rfl) 38 #[bloV p wd a b] (by go_simp) ((unhide HTO (unhide HN) _ ((unhide V5).below hS0)).mono ?_)
  rintro e w6 ⟨u6, rfl, o6, b6⟩
  have s6 := bl_st b6 hS0
  have U6 := hide ((unhide U5).below s6)
  have V6 := hide o6.blm
  clear b6 o6
  refine ⟨_, rfl, hK _ _ ⟨s6, ?_⟩⟩
  simp only [Act.put, List.setIfInBounds_toArray, List.set_cons_zero, List.set_cons_succ]
  refine wpAnyH_one (i := 3) (by kernel_rfl) ?_
  refine wpOp_step (o := { dst := some 25, op := Op.call { callee := Callee.value (Operand.func 31), args := #[Operand.tmp 22, Operand.tmp 24], argTypes := #[26, 26] }, type := 4, pos := "exact.go:3158", after := #[{ on := 0, ground := Ground.data }, { on := 2, ground := Ground.data }, { on := 2, ground := Ground.chain }], guard := none }) rfl fun K' hK => step_enterW (by rfl) 31 #[bloV p wd (.slice A2 ss.length ca2) (.slice B2 bs.length cb2), u6] (by go_simp) ((unhide HEQ (unhide HN) _ _ _ (unhide U6) (unhide V6)).mono ?_)
  rintro e w7 ⟨rfl, b7⟩
  have s7 := bl_st b7 s6
  clear b7
  refine ⟨_, rfl, hK _ _ ⟨s7, ?_⟩⟩
  simp only [Act.put, List.setIfInBounds_toArray, List.set_cons_zero, List.set_cons_succ]
  refine wpAnyH_take (i := 4) (oi := { dst := some 26, op := Op.unOp UnOp.not 4 (Operand.tmp 25), type := 4, pos := "exact.go:3158", after := #[{ on := 3, ground := Ground.data }], guard := none }) (v := ?_) rfl (by kernel_rfl) (by kernel_rfl) (by kernel_rfl) (fun _ _ _ h => h) (Or.inl ⟨by rfl, ?_⟩) s7 ?_
  rotate_left
  · intro W hSw
    go_simp
    try with_reducible rfl
  simp only [Act.put, List.setIfInBounds_toArray, List.set_cons_zero, List.set_cons_succ]
  refine wpAnyH_done (by kernel_rfl) ?_ _
  have B7 := hide (bl_st s7 (unhide B5))
  clear s6 s7 hS0
  go_wp2
  go_ret
  exact ⟨rfl, unhide B7⟩
end Go.Proofs.Ythckgccfjpgbaaa
