/- One act of two, by the specification: rounds, and acts that are none. -/
import Derived.Test.YtbkcgkffafjbgaaGreatDoorGf
namespace Go.Proofs.YtbkcgkffafjbgaaGreatDoor
open Go.RowKit
set_option maxHeartbeats 4000000
set_option maxRecDepth 20000
set_option linter.unusedVariables false
theorem step_other (v : Value) (z : Tw) (a : Ta) (w : World) (hv : twV w v z) (hx : peFew z.x) (hy : peFew z.y) (ht : a.t.size ≤ maxLen) (sx : 0 ≤ z.x.s ∧ z.x.s ≤ 1048576) (ex : 0 ≤ z.x.e ∧ z.x.e ≤ 1048576) (sy : 0 ≤ z.y.s ∧ z.y.s ≤ 1048576) (ey : 0 ≤ z.y.e ∧ z.y.e ≤ 1048576) (h1 : a.k ≠ 1) (h2 : a.k ≠ 2) (h3 : a.k ≠ 3) :
    Calls Tryz.prog 22 #[v, taV a] w fun e w' => ∃ r, e = .returned (.tuple #[r, .int .i64 (stepF z a).2]) ∧ twV w' r (stepF z a).1 ∧ (∀ b, b < w.heap.size → offT b w v → offT b w' r) ∧ Below w.heap.size w w' := by
  obtain ⟨g, c, q0, i0, q1, i1, rest, rfl, hc, hr, hp, kp, hq, kq⟩ := hv
  obtain ⟨A0, r0, B0, r1, e0⟩ := hp.slices
  obtain ⟨A1, r2, B1, r3, e1⟩ := hq.slices
  have e00 : q0 = .slice A0 z.x.q.length r0 ∧ i0 = .slice B0 z.x.i.length r1 := peA_inj e0
  have e11 : q1 = .slice A1 z.y.q.length r2 ∧ i1 = .slice B1 z.y.i.length r3 := peA_inj e1
  obtain ⟨rfl, rfl⟩ := e00
  obtain ⟨rfl, rfl⟩ := e11
  clear e0 e1
  have B1w : Below w.heap.size w (w.alloc (.cells #[.int .i64 a.k, .int .i64 a.w, .string a.t, .bool a.la, .bool a.lb] 27)) := bl_al (Below.refl _ _)
  have HB := hide B1w
  have HR := hide (hr.below B1w)
  have HP := hide (hp.below B1w)
  have HQ := hide (hq.below B1w)
  have KP := hide kp
  have KQ := hide kq
  have HN := hide (heap_alloc_new w (.cells #[.int .i64 a.k, .int .i64 a.w, .string a.t, .bool a.la, .bool a.lb] 27))
  have HCC := hide hc
  have VV : Hid (twV (w.alloc (.cells #[.int .i64 a.k, .int .i64 a.w, .string a.t, .bool a.la, .bool a.lb] 27)) (.slice (some ⟨g, 0, none⟩) 2 c) z) := hide ⟨g, c, _, _, _, _, rest, rfl, hc, hr.below B1w, hp.below B1w, kp, hq.below B1w, kq⟩
  have OT := hide (fun b (ho : offT b w (.slice (some ⟨g, 0, none⟩) 2 c)) => ho.row hr)
  show Calls Tryz.prog 22 #[.slice (some ⟨g, 0, none⟩) 2 c, taA a.k a.w a.t a.la a.lb] w _
  have gl := hr.lt
  have HF := hide (show stepF z a = (z, 3) by unfold stepF; rw [if_neg h1, if_neg h2, if_neg h3])
  have h1' : (a.k == 1) = false := by simpa using h1
  have h2' : (a.k == 2) = false := by simpa using h2
  have h3' : (a.k == 3) = false := by simpa using h3
  clear hr hp hq kp kq HR HP HQ B1w hx hy sx ex sy ey ht h1 h2 h3
  go_enter Tryz.func22, Tryz.ntmps22
  go_wp2
  go_ret2
  rw [unhide HF]
  exact ⟨_, rfl, unhide VV, fun b _ ho => ho.below (unhide HB), unhide HB⟩
theorem step_round00 (v : Value) (z : Tw) (a : Ta) (w : World) (hv : twV w v z) (hx : peFew z.x) (hy : peFew z.y) (ht : a.t.size ≤ maxLen) (sx : 0 ≤ z.x.s ∧ z.x.s ≤ 1048576) (ex : 0 ≤ z.x.e ∧ z.x.e ≤ 1048576) (sy : 0 ≤ z.y.s ∧ z.y.s ≤ 1048576) (ey : 0 ≤ z.y.e ∧ z.y.e ≤ 1048576) (h2 : a.k = 2) (hla : a.la = false) (hlb : a.lb = false) :
    Calls Tryz.prog 22 #[v, taV a] w fun e w' => ∃ r, e = .returned (.tuple #[r, .int .i64 (stepF z a).2]) ∧ twV w' r (stepF z a).1 ∧ (∀ b, b < w.heap.size → offT b w v → offT b w' r) ∧ Below w.heap.size w w' := by
  obtain ⟨g, c, q0, i0, q1, i1, rest, rfl, hc, hr, hp, kp, hq, kq⟩ := hv
  obtain ⟨A0, r0, B0, r1, e0⟩ := hp.slices
  obtain ⟨A1, r2, B1, r3, e1⟩ := hq.slices
  have e00 : q0 = .slice A0 z.x.q.length r0 ∧ i0 = .slice B0 z.x.i.length r1 := peA_inj e0
  have e11 : q1 = .slice A1 z.y.q.length r2 ∧ i1 = .slice B1 z.y.i.length r3 := peA_inj e1
  obtain ⟨rfl, rfl⟩ := e00
  obtain ⟨rfl, rfl⟩ := e11
  clear e0 e1
  have B1w : Below w.heap.size w (w.alloc (.cells #[.int .i64 a.k, .int .i64 a.w, .string a.t, .bool a.la, .bool a.lb] 27)) := bl_al (Below.refl _ _)
  have HB := hide B1w
  have HR := hide (hr.below B1w)
  have HP := hide (hp.below B1w)
  have HQ := hide (hq.below B1w)
  have KP := hide kp
  have KQ := hide kq
  have HN := hide (heap_alloc_new w (.cells #[.int .i64 a.k, .int .i64 a.w, .string a.t, .bool a.la, .bool a.lb] 27))
  have HCC := hide hc
  have VV : Hid (twV (w.alloc (.cells #[.int .i64 a.k, .int .i64 a.w, .string a.t, .bool a.la, .bool a.lb] 27)) (.slice (some ⟨g, 0, none⟩) 2 c) z) := hide ⟨g, c, _, _, _, _, rest, rfl, hc, hr.below B1w, hp.below B1w, kp, hq.below B1w, kq⟩
  have OT := hide (fun b (ho : offT b w (.slice (some ⟨g, 0, none⟩) 2 c)) => ho.row hr)
  show Calls Tryz.prog 22 #[.slice (some ⟨g, 0, none⟩) 2 c, taA a.k a.w a.t a.la a.lb] w _
  have gl := hr.lt
  have HF := hide (show stepF z a = (⟨inF z.x (outF z.y), inF z.y (outF z.x)⟩, 0) by unfold stepF; rw [if_neg (by omega), if_pos h2, hla, hlb]; rfl)
  have KO := hide (fun (p : Pe) u W (h : peV W u p) (hf : peFew p) => out61 u p W h hf)
  have KX := hide (fun u W (h : peV W u z.x) (hc : capQ u z.x) => in57 u z.x (outF z.y) W h hc hx sx ex)
  have KY := hide (fun u W (h : peV W u z.y) (hc : capQ u z.y) => in57 u z.y (outF z.x) W h hc hy sy ey)
  have FX := hide hx
  have FY := hide hy
  have ka : (w.alloc (.cells #[.int .i64 a.k, .int .i64 a.w, .string a.t, .bool a.la, .bool a.lb] 27)).cell? ⟨w.heap.size, 0, none⟩ = some (.int .i64 2) := by rw [← h2]; exact row_cell (unhide HN)
  have ZW : Hid (g < w.heap.size ∧ (w.alloc (.cells #[.int .i64 a.k, .int .i64 a.w, .string a.t, .bool a.la, .bool a.lb] 27)).heap.size = w.heap.size + 1) := hide ⟨gl, by simp⟩
  have K1 := hide (unhide KO z.x _ _ (unhide HP) (unhide FX))
  have K2 := hide (fun u W h => unhide KO z.y u W h (unhide FY))
  generalize hf0 : outF z.x = f0 at *
  generalize hf1 : outF z.y = f1 at *
  rw [h2, hla, hlb] at *
  have k0 := (unhide HR).c0
  have k1 := (unhide HR).c1
  have k2 := (unhide HR).c2
  have k3 := (unhide HR).c3
  have k4 := (unhide HR).c4
  have k5 := (unhide HR).c5
  have k6 := (unhide HR).c6
  have k7 := (unhide HR).c7
  have OX := hide (fun b (hb : w.heap.size ≤ b) => offP_old hp hb)
  have OY := hide (fun b (hb : w.heap.size ≤ b) => offP_old hq hb)
  clear hr hp hq kp kq B1w hx hy sx ex sy ey ht h2 ka gl hf0 hf1 VV KO FX FY hc
  go_enter Tryz.func22, Tryz.ntmps22
  go_wp2_with fail
  generalize hw1 : w.alloc (.cells #[.int .i64 2, .int .i64 a.w, .string a.t, .bool false, .bool false] 27) = w1 at *
  clear hw1 hla hlb
  refine (unhide K1).mono ?_
  rintro e1 w2 ⟨rfl, b2⟩
  have bA : Below w1.heap.size w1 (w2.alloc (.cells #[.int .i64 f0.s, .int .i64 f0.a, .bool f0.h, .string f0.b] 75)) := bl_al b2
  have HB := hide (bl_st bA (unhide HB))
  have HR := hide ((unhide HR).below bA)
  have HP := hide ((unhide HP).below bA)
  have HQ := hide ((unhide HQ).below bA)
  have HN := hide ((bA.block _ (Array.getElem?_eq_some_iff.1 (unhide HN)).1).trans (unhide HN))
  have FA1 := hide (fc_new w2 f0.s f0.a f0.h f0.b 75)
  have Z2 := hide b2.size
  clear b2 bA K1 k0 k1 k2 k3 k4 k5 k6 k7
  have k0 := (unhide HR).c0
  have k1 := (unhide HR).c1
  have k2 := (unhide HR).c2
  have k3 := (unhide HR).c3
  have k4 := (unhide HR).c4
  have k5 := (unhide HR).c5
  have k6 := (unhide HR).c6
  have k7 := (unhide HR).c7
  go_wp2_with fail
  generalize hw3 : w2.alloc (.cells #[.int .i64 f0.s, .int .i64 f0.a, .bool f0.h, .string f0.b] 75) = w3 at *
  have Z3 : Hid (w3.heap.size = w2.heap.size + 1) := hide (by rw [← hw3]; simp)
  clear hw3
  refine (unhide K2 _ w3 (unhide HQ)).mono ?_
  rintro e1 w4 ⟨rfl, b4⟩
  have bA : Below w3.heap.size w3 (w4.alloc (.cells #[.int .i64 f1.s, .int .i64 f1.a, .bool f1.h, .string f1.b] 75)) := bl_al b4
  have HB := hide (bl_st bA (unhide HB))
  have HR := hide ((unhide HR).below bA)
  have HP := hide ((unhide HP).below bA)
  have HQ := hide ((unhide HQ).below bA)
  have HN := hide ((bA.block _ (Array.getElem?_eq_some_iff.1 (unhide HN)).1).trans (unhide HN))
  have FA1 := hide ((unhide FA1).below bA)
  have FA0 := hide (fc_new w4 f1.s f1.a f1.h f1.b 75)
  have Z4 := hide b4.size
  clear b4 bA K2 k0 k1 k2 k3 k4 k5 k6 k7
  have E5 : Hid (w4.heap.size + 1 = (w4.alloc (.cells #[.int .i64 f1.s, .int .i64 f1.a, .bool f1.h, .string f1.b] 75)).heap.size) := hide (by simp)
  go_wp2_with (at_builtin; refine wpList_copy8 (w4.alloc (.cells #[.int .i64 f1.s, .int .i64 f1.a, .bool f1.h, .string f1.b] 75)) rfl _ _ rfl (w4.heap.size + 1) g c (unhide E5) (.slice A0 z.x.q.length r0) (.int .i64 z.x.s) (.int .i64 z.x.e) (.slice B0 z.x.i.length r1) (.slice A1 z.y.q.length r2) (.int .i64 z.y.s) (.int .i64 z.y.e) (.slice B1 z.y.i.length r3) rest rfl rfl (unhide HR) (by simp [Value.oneCell']) ?_
               intro g' c' w6 rs b6 row6 lg6 hc6
               have HB := hide (bl_st b6 (unhide HB))
               have HP := hide ((unhide HP).below b6)
               have HQ := hide ((unhide HQ).below b6)
               have HN := hide ((b6.block _ (Array.getElem?_eq_some_iff.1 (unhide HN)).1).trans (unhide HN))
               have FA1 := hide ((unhide FA1).below b6)
               have FA0 := hide ((unhide FA0).below b6)
               have R8 := hide row6
               have LG := hide (show w4.heap.size + 1 ≤ g' ∧ 2 ≤ c' from ⟨by have := unhide E5; omega, hc6⟩)
               have ka3 : w6.cell? ⟨w.heap.size, 3, none⟩ = some (.bool false) := row_cell (unhide HN)
               have ka4 : w6.cell? ⟨w.heap.size, 4, none⟩ = some (.bool false) := row_cell (unhide HN)
               clear b6 row6 lg6 hc6 HR E5)
  clear ka4
  refine wp_region_late (S := fun W' => row8 W' g' (.slice A0 z.x.q.length r0) (.int .i64 z.x.s) (.int .i64 z.x.e) (.slice B0 z.x.i.length r1) (.slice A1 z.y.q.length r2) (.int .i64 z.y.s) (.int .i64 z.y.e) (.slice B1 z.y.i.length r3) rs ∧ FC (w2.heap.size) f0.s f0.a f0.h f0.b W') (late := [7]) (by kernel_rfl) ?_
  have hS0 : Below w6.heap.size w6 { w6 with drawn := w6.drawn + 1 } := below_drewN (Below.refl _ _) 1
  have SF : _ ∧ _ := ⟨(unhide R8).below hS0, (unhide FA1).below hS0⟩
  refine wpAnyL_take (i := 0) (oi := { dst := some 59, op := Op.move (Operand.tmp 11), type := 41, pos := "l15_talk.go:103", after := #[], guard := none }) (v := ?_) rfl (by kernel_rfl) (by kernel_rfl) (by kernel_rfl) (by kernel_rfl) (fun _ _ _ h => h) (Or.inl ⟨by rfl, ?_⟩) SF ?_
  rotate_left
  · intro W hSw
    have k0 := hSw.1.c0
    have k1 := hSw.1.c1
    have k2 := hSw.1.c2
    have k3 := hSw.1.c3
    have k4 := hSw.1.c4
    have k5 := hSw.1.c5
    have k6 := hSw.1.c6
    have k7 := hSw.1.c7
    obtain ⟨_, d0, d1, d2, d3⟩ := hSw.2
    go_simp
    try with_reducible rfl
  simp only [Act.put, List.setIfInBounds_toArray, List.set_cons_zero, List.set_cons_succ]
  refine wpAnyL_take (i := 1) (oi := { dst := some 60, op := Op.move (Operand.tmp 11), type := 41, pos := "l15_talk.go:103", after := #[], guard := none }) (v := ?_) rfl (by kernel_rfl) (by kernel_rfl) (by kernel_rfl) (by kernel_rfl) (fun _ _ _ h => h) (Or.inl ⟨by rfl, ?_⟩) SF ?_
  rotate_left
  · intro W hSw
    have k0 := hSw.1.c0
    have k1 := hSw.1.c1
    have k2 := hSw.1.c2
    have k3 := hSw.1.c3
    have k4 := hSw.1.c4
    have k5 := hSw.1.c5
    have k6 := hSw.1.c6
    have k7 := hSw.1.c7
    obtain ⟨_, d0, d1, d2, d3⟩ := hSw.2
    go_simp
    try with_reducible rfl
  simp only [Act.put, List.setIfInBounds_toArray, List.set_cons_zero, List.set_cons_succ]
  refine wpAnyL_take (i := 2) (oi := { dst := some 61, op := Op.indexAddr 41 (Operand.tmp 60) (Operand.const (Value.int IntKind.i64 1)), type := 0, pos := "l15_talk.go:103", after := #[{ on := 1, ground := Ground.data }], guard := none }) (v := ?_) rfl (by kernel_rfl) (by kernel_rfl) (by kernel_rfl) (by kernel_rfl) (fun _ _ _ h => h) (Or.inl ⟨by rfl, ?_⟩) SF ?_
  rotate_left
  · intro W hSw
    have k0 := hSw.1.c0
    have k1 := hSw.1.c1
    have k2 := hSw.1.c2
    have k3 := hSw.1.c3
    have k4 := hSw.1.c4
    have k5 := hSw.1.c5
    have k6 := hSw.1.c6
    have k7 := hSw.1.c7
    obtain ⟨_, d0, d1, d2, d3⟩ := hSw.2
    go_simp
    try with_reducible rfl
  simp only [Act.put, List.setIfInBounds_toArray, List.set_cons_zero, List.set_cons_succ]
  refine wpAnyL_take (i := 3) (oi := { dst := some 62, op := Op.load 53 (Operand.tmp 61), type := 53, pos := "l15_talk.go:103", after := #[{ on := 2, ground := Ground.data }], guard := none }) (v := ?_) rfl (by kernel_rfl) (by kernel_rfl) (by kernel_rfl) (by kernel_rfl) (fun _ _ _ h => h) (Or.inl ⟨by rfl, ?_⟩) SF ?_
  rotate_left
  · intro W hSw
    have k0 := hSw.1.c0
    have k1 := hSw.1.c1
    have k2 := hSw.1.c2
    have k3 := hSw.1.c3
    have k4 := hSw.1.c4
    have k5 := hSw.1.c5
    have k6 := hSw.1.c6
    have k7 := hSw.1.c7
    obtain ⟨_, d0, d1, d2, d3⟩ := hSw.2
    go_simp
    try with_reducible rfl
  simp only [Act.put, List.setIfInBounds_toArray, List.set_cons_zero, List.set_cons_succ]
  refine wpAnyL_take (i := 4) (oi := { dst := some 63, op := Op.load 75 (Operand.tmp 9), type := 75, pos := "l15_talk.go:103", after := #[], guard := none }) (v := ?_) rfl (by kernel_rfl) (by kernel_rfl) (by kernel_rfl) (by kernel_rfl) (fun _ _ _ h => h) (Or.inl ⟨by rfl, ?_⟩) SF ?_
  rotate_left
  · intro W hSw
    have k0 := hSw.1.c0
    have k1 := hSw.1.c1
    have k2 := hSw.1.c2
    have k3 := hSw.1.c3
    have k4 := hSw.1.c4
    have k5 := hSw.1.c5
    have k6 := hSw.1.c6
    have k7 := hSw.1.c7
    obtain ⟨_, d0, d1, d2, d3⟩ := hSw.2
    go_simp
    try with_reducible rfl
  simp only [Act.put, List.setIfInBounds_toArray, List.set_cons_zero, List.set_cons_succ]
  refine wpAnyL_one (i := 5) (by kernel_rfl) ?_
  refine wpOp_step (o := { dst := some 64, op := Op.call { callee := Callee.value (Operand.func 40), args := #[Operand.tmp 62, Operand.tmp 63], argTypes := #[53, 75] }, type := 53, pos := "l15_talk.go:103", after := #[{ on := 3, ground := Ground.data }, { on := 4, ground := Ground.data }], guard := none }) rfl fun K' hK => step_enterW (by rfl) 40 #[peA (.slice A1 z.y.q.length r2) z.y.s z.y.e (.slice B1 z.y.i.length r3), frV f0] (by go_simp) ((unhide KY _ _ ((unhide HQ).below hS0) (unhide KQ)).mono ?_)
  rintro e wi1 ⟨r, rfl, pv, cq, fa, b⟩
  have s1 := bl_st b hS0
  have SG : _ ∧ _ := ⟨(unhide R8).below s1, (unhide FA1).below s1⟩
  obtain ⟨Y11, Y12, Y13, Y14, hre⟩ := pv.slices
  subst hre
  refine ⟨_, rfl, hK _ _ ⟨(fun _ => SG), ?_⟩⟩
  simp only [Act.put, List.setIfInBounds_toArray, List.set_cons_zero, List.set_cons_succ]
  have x0 := SG.1.c4
  have y0 := SG.1.fz 4
  have x1 := SG.1.c5
  have y1 := SG.1.fz 5
  have x2 := SG.1.c6
  have y2 := SG.1.fz 6
  have x3 := SG.1.c7
  have y3 := SG.1.fz 7
  refine wpAnyL_one (i := 6) (by kernel_rfl) ?_
  refine wpOp_step (o := { dst := some 65, op := Op.indexAddr 41 (Operand.tmp 59) (Operand.const (Value.int IntKind.i64 1)), type := 0, pos := "l15_talk.go:103", after := #[{ on := 0, ground := Ground.data }, { on := 0, ground := Ground.phase }, { on := 1, ground := Ground.phase }, { on := 2, ground := Ground.phase }, { on := 3, ground := Ground.phase }, { on := 4, ground := Ground.phase }, { on := 5, ground := Ground.phase }], guard := none }) rfl fun K' hK => step_valueW (by rfl) (.pointer (some ⟨g', 4, none⟩)) (wi1) (by go_simp) ?_
  refine hK _ _ ⟨(fun _ => SG), ?_⟩
  simp only [Act.put, List.setIfInBounds_toArray, List.set_cons_zero, List.set_cons_succ]
  refine wpAnyL_one (i := 7) (by kernel_rfl) ?_
  refine wpOp_step (o := { dst := none, op := Op.store 53 (Operand.tmp 65) (Operand.tmp 64), type := 0, pos := "l15_talk.go:103", after := #[{ on := 6, ground := Ground.data }, { on := 5, ground := Ground.data }, { on := 5, ground := Ground.chain }, { on := 0, ground := Ground.phase }, { on := 1, ground := Ground.phase }, { on := 2, ground := Ground.phase }, { on := 3, ground := Ground.phase }, { on := 4, ground := Ground.phase }, { on := 5, ground := Ground.phase }], guard := none }) rfl fun K' hK => step_skipW (by rfl) ((((wi1.setCell ⟨g', 4, none⟩ (.slice Y11 (inF z.y f0).q.length Y12)).setCell ⟨g', 5, none⟩ (.int .i64 (inF z.y f0).s)).setCell ⟨g', 6, none⟩ (.int .i64 (inF z.y f0).e)).setCell ⟨g', 7, none⟩ (.slice Y13 (inF z.y f0).i.length Y14)) (by go_simp) ?_
  refine hK _ _ ⟨(fun h => by cases h), ?_⟩
  try simp only [Act.put]
  refine wpAnyL_done (by kernel_rfl) ?_ _
  have LN : Lone g' wi1 ((((wi1.setCell ⟨g', 4, none⟩ (.slice Y11 (inF z.y f0).q.length Y12)).setCell ⟨g', 5, none⟩ (.int .i64 (inF z.y f0).s)).setCell ⟨g', 6, none⟩ (.int .i64 (inF z.y f0).e)).setCell ⟨g', 7, none⟩ (.slice Y13 (inF z.y f0).i.length Y14)) := lone_put wi1 g' 4 5 6 7 _ _ _ _
  have lg := unhide LG
  have l6 := (unhide R8).lt
  have zw := unhide ZW
  have z2 := unhide Z2
  have z3 := unhide Z3
  have z4 := unhide Z4
  have szd : { w6 with drawn := w6.drawn + 1 }.heap.size = w6.heap.size := rfl
  have R9 := hide (SG.1.put4 (.slice Y11 (inF z.y f0).q.length Y12) (.int .i64 (inF z.y f0).s) (.int .i64 (inF z.y f0).e) (.slice Y13 (inF z.y f0).i.length Y14))
  have HB' := hide (LN.below (bl_st s1 (unhide HB)) (by omega) (bl_st s1 (unhide HB)).size)
  have HN' := hide ((LN.block _ (by have := s1.size; omega) (by omega)).trans ((s1.block _ (Array.getElem?_eq_some_iff.1 (unhide HN)).1).trans (unhide HN)))
  have OF : offP g' (peA (.slice Y11 (inF z.y f0).q.length Y12) (inF z.y f0).s (inF z.y f0).e (.slice Y13 (inF z.y f0).i.length Y14)) := offP_far fa (unhide OY g' (by omega)) (by omega)
  have PN1 := hide (peV_lone8 pv LN OF)
  have ON1 := hide OF
  have FRW1 : Hid (∀ b, b < w.heap.size → offP b (peA (.slice A1 z.y.q.length r2) z.y.s z.y.e (.slice B1 z.y.i.length r3)) → offP b (peA (.slice Y11 (inF z.y f0).q.length Y12) (inF z.y f0).s (inF z.y f0).e (.slice Y13 (inF z.y f0).i.length Y14))) := hide (fun b hb ho => offP_far fa ho (by omega))
  have CN1 := hide cq
  have HP' := hide (peV_lone8 ((unhide HP).below s1) LN (unhide OX g' (by omega)))
  have FA0' := hide (FC_lone ((unhide FA0).below s1) LN (by omega))
  clear x0 x1 x2 x3 y0 y1 y2 y3 LN s1 SG SF hS0 pv cq fa lg l6 zw z2 z3 z4 szd R8 b OF HB HN HP FA0
  have HB := HB'
  have HN := HN'
  have HP := HP'
  have FA0 := FA0'
  clear HB' HN' HP' FA0'
  have R8 := R9
  clear R9
  generalize (((wi1.setCell ⟨g', 4, none⟩ (.slice Y11 (inF z.y f0).q.length Y12)).setCell ⟨g', 5, none⟩ (.int .i64 (inF z.y f0).s)).setCell ⟨g', 6, none⟩ (.int .i64 (inF z.y f0).e)).setCell ⟨g', 7, none⟩ (.slice Y13 (inF z.y f0).i.length Y14) = wa at *
  have ka4 : wa.cell? ⟨w.heap.size, 4, none⟩ = some (.bool false) := row_cell (unhide HN)
  go_wp2
  refine wp_region_late (S := fun W' => row8 W' g' (.slice A0 z.x.q.length r0) (.int .i64 z.x.s) (.int .i64 z.x.e) (.slice B0 z.x.i.length r1) (.slice Y11 (inF z.y f0).q.length Y12) (.int .i64 (inF z.y f0).s) (.int .i64 (inF z.y f0).e) (.slice Y13 (inF z.y f0).i.length Y14) rs ∧ FC (w4.heap.size) f1.s f1.a f1.h f1.b W') (late := [7]) (by kernel_rfl) ?_
  have hS0 : Below wa.heap.size wa { wa with drawn := wa.drawn + 1 } := below_drewN (Below.refl _ _) 1
  have SF : _ ∧ _ := ⟨(unhide R8).below hS0, (unhide FA0).below hS0⟩
  refine wpAnyL_take (i := 0) (oi := { dst := some 69, op := Op.move (Operand.tmp 11), type := 41, pos := "l15_talk.go:106", after := #[], guard := none }) (v := ?_) rfl (by kernel_rfl) (by kernel_rfl) (by kernel_rfl) (by kernel_rfl) (fun _ _ _ h => h) (Or.inl ⟨by rfl, ?_⟩) SF ?_
  rotate_left
  · intro W hSw
    have k0 := hSw.1.c0
    have k1 := hSw.1.c1
    have k2 := hSw.1.c2
    have k3 := hSw.1.c3
    have k4 := hSw.1.c4
    have k5 := hSw.1.c5
    have k6 := hSw.1.c6
    have k7 := hSw.1.c7
    obtain ⟨_, d0, d1, d2, d3⟩ := hSw.2
    go_simp
    try with_reducible rfl
  simp only [Act.put, List.setIfInBounds_toArray, List.set_cons_zero, List.set_cons_succ]
  refine wpAnyL_take (i := 1) (oi := { dst := some 70, op := Op.move (Operand.tmp 11), type := 41, pos := "l15_talk.go:106", after := #[], guard := none }) (v := ?_) rfl (by kernel_rfl) (by kernel_rfl) (by kernel_rfl) (by kernel_rfl) (fun _ _ _ h => h) (Or.inl ⟨by rfl, ?_⟩) SF ?_
  rotate_left
  · intro W hSw
    have k0 := hSw.1.c0
    have k1 := hSw.1.c1
    have k2 := hSw.1.c2
    have k3 := hSw.1.c3
    have k4 := hSw.1.c4
    have k5 := hSw.1.c5
    have k6 := hSw.1.c6
    have k7 := hSw.1.c7
    obtain ⟨_, d0, d1, d2, d3⟩ := hSw.2
    go_simp
    try with_reducible rfl
  simp only [Act.put, List.setIfInBounds_toArray, List.set_cons_zero, List.set_cons_succ]
  refine wpAnyL_take (i := 2) (oi := { dst := some 71, op := Op.indexAddr 41 (Operand.tmp 70) (Operand.const (Value.int IntKind.i64 0)), type := 0, pos := "l15_talk.go:106", after := #[{ on := 1, ground := Ground.data }], guard := none }) (v := ?_) rfl (by kernel_rfl) (by kernel_rfl) (by kernel_rfl) (by kernel_rfl) (fun _ _ _ h => h) (Or.inl ⟨by rfl, ?_⟩) SF ?_
  rotate_left
  · intro W hSw
    have k0 := hSw.1.c0
    have k1 := hSw.1.c1
    have k2 := hSw.1.c2
    have k3 := hSw.1.c3
    have k4 := hSw.1.c4
    have k5 := hSw.1.c5
    have k6 := hSw.1.c6
    have k7 := hSw.1.c7
    obtain ⟨_, d0, d1, d2, d3⟩ := hSw.2
    go_simp
    try with_reducible rfl
  simp only [Act.put, List.setIfInBounds_toArray, List.set_cons_zero, List.set_cons_succ]
  refine wpAnyL_take (i := 3) (oi := { dst := some 72, op := Op.load 53 (Operand.tmp 71), type := 53, pos := "l15_talk.go:106", after := #[{ on := 2, ground := Ground.data }], guard := none }) (v := ?_) rfl (by kernel_rfl) (by kernel_rfl) (by kernel_rfl) (by kernel_rfl) (fun _ _ _ h => h) (Or.inl ⟨by rfl, ?_⟩) SF ?_
  rotate_left
  · intro W hSw
    have k0 := hSw.1.c0
    have k1 := hSw.1.c1
    have k2 := hSw.1.c2
    have k3 := hSw.1.c3
    have k4 := hSw.1.c4
    have k5 := hSw.1.c5
    have k6 := hSw.1.c6
    have k7 := hSw.1.c7
    obtain ⟨_, d0, d1, d2, d3⟩ := hSw.2
    go_simp
    try with_reducible rfl
  simp only [Act.put, List.setIfInBounds_toArray, List.set_cons_zero, List.set_cons_succ]
  refine wpAnyL_take (i := 4) (oi := { dst := some 73, op := Op.load 75 (Operand.tmp 10), type := 75, pos := "l15_talk.go:106", after := #[], guard := none }) (v := ?_) rfl (by kernel_rfl) (by kernel_rfl) (by kernel_rfl) (by kernel_rfl) (fun _ _ _ h => h) (Or.inl ⟨by rfl, ?_⟩) SF ?_
  rotate_left
  · intro W hSw
    have k0 := hSw.1.c0
    have k1 := hSw.1.c1
    have k2 := hSw.1.c2
    have k3 := hSw.1.c3
    have k4 := hSw.1.c4
    have k5 := hSw.1.c5
    have k6 := hSw.1.c6
    have k7 := hSw.1.c7
    obtain ⟨_, d0, d1, d2, d3⟩ := hSw.2
    go_simp
    try with_reducible rfl
  simp only [Act.put, List.setIfInBounds_toArray, List.set_cons_zero, List.set_cons_succ]
  refine wpAnyL_one (i := 5) (by kernel_rfl) ?_
  refine wpOp_step (o := { dst := some 74, op := Op.call { callee := Callee.value (Operand.func 40), args := #[Operand.tmp 72, Operand.tmp 73], argTypes := #[53, 75] }, type := 53, pos := "l15_talk.go:106", after := #[{ on := 3, ground := Ground.data }, { on := 4, ground := Ground.data }], guard := none }) rfl fun K' hK => step_enterW (by rfl) 40 #[peA (.slice A0 z.x.q.length r0) z.x.s z.x.e (.slice B0 z.x.i.length r1), frV f1] (by go_simp) ((unhide KX _ _ ((unhide HP).below hS0) (unhide KP)).mono ?_)
  rintro e wi0 ⟨r, rfl, pv, cq, fa, b⟩
  have s1 := bl_st b hS0
  have SG : _ ∧ _ := ⟨(unhide R8).below s1, (unhide FA0).below s1⟩
  obtain ⟨Y01, Y02, Y03, Y04, hre⟩ := pv.slices
  subst hre
  refine ⟨_, rfl, hK _ _ ⟨(fun _ => SG), ?_⟩⟩
  simp only [Act.put, List.setIfInBounds_toArray, List.set_cons_zero, List.set_cons_succ]
  have x0 := SG.1.c0
  have y0 := SG.1.fz 0
  have x1 := SG.1.c1
  have y1 := SG.1.fz 1
  have x2 := SG.1.c2
  have y2 := SG.1.fz 2
  have x3 := SG.1.c3
  have y3 := SG.1.fz 3
  refine wpAnyL_one (i := 6) (by kernel_rfl) ?_
  refine wpOp_step (o := { dst := some 75, op := Op.indexAddr 41 (Operand.tmp 69) (Operand.const (Value.int IntKind.i64 0)), type := 0, pos := "l15_talk.go:106", after := #[{ on := 0, ground := Ground.data }, { on := 0, ground := Ground.phase }, { on := 1, ground := Ground.phase }, { on := 2, ground := Ground.phase }, { on := 3, ground := Ground.phase }, { on := 4, ground := Ground.phase }, { on := 5, ground := Ground.phase }], guard := none }) rfl fun K' hK => step_valueW (by rfl) (.pointer (some ⟨g', 0, none⟩)) (wi0) (by go_simp) ?_
  refine hK _ _ ⟨(fun _ => SG), ?_⟩
  simp only [Act.put, List.setIfInBounds_toArray, List.set_cons_zero, List.set_cons_succ]
  refine wpAnyL_one (i := 7) (by kernel_rfl) ?_
  refine wpOp_step (o := { dst := none, op := Op.store 53 (Operand.tmp 75) (Operand.tmp 74), type := 0, pos := "l15_talk.go:106", after := #[{ on := 6, ground := Ground.data }, { on := 5, ground := Ground.data }, { on := 5, ground := Ground.chain }, { on := 0, ground := Ground.phase }, { on := 1, ground := Ground.phase }, { on := 2, ground := Ground.phase }, { on := 3, ground := Ground.phase }, { on := 4, ground := Ground.phase }, { on := 5, ground := Ground.phase }], guard := none }) rfl fun K' hK => step_skipW (by rfl) ((((wi0.setCell ⟨g', 0, none⟩ (.slice Y01 (inF z.x f1).q.length Y02)).setCell ⟨g', 1, none⟩ (.int .i64 (inF z.x f1).s)).setCell ⟨g', 2, none⟩ (.int .i64 (inF z.x f1).e)).setCell ⟨g', 3, none⟩ (.slice Y03 (inF z.x f1).i.length Y04)) (by go_simp) ?_
  refine hK _ _ ⟨(fun h => by cases h), ?_⟩
  try simp only [Act.put]
  refine wpAnyL_done (by kernel_rfl) ?_ _
  have LN : Lone g' wi0 ((((wi0.setCell ⟨g', 0, none⟩ (.slice Y01 (inF z.x f1).q.length Y02)).setCell ⟨g', 1, none⟩ (.int .i64 (inF z.x f1).s)).setCell ⟨g', 2, none⟩ (.int .i64 (inF z.x f1).e)).setCell ⟨g', 3, none⟩ (.slice Y03 (inF z.x f1).i.length Y04)) := lone_put wi0 g' 0 1 2 3 _ _ _ _
  have lg := unhide LG
  have l6 := (unhide R8).lt
  have zw := unhide ZW
  have z2 := unhide Z2
  have z3 := unhide Z3
  have z4 := unhide Z4
  have szd : { wa with drawn := wa.drawn + 1 }.heap.size = wa.heap.size := rfl
  have R9 := hide (SG.1.put0 (.slice Y01 (inF z.x f1).q.length Y02) (.int .i64 (inF z.x f1).s) (.int .i64 (inF z.x f1).e) (.slice Y03 (inF z.x f1).i.length Y04))
  have HB' := hide (LN.below (bl_st s1 (unhide HB)) (by omega) (bl_st s1 (unhide HB)).size)
  have HN' := hide ((LN.block _ (by have := s1.size; omega) (by omega)).trans ((s1.block _ (Array.getElem?_eq_some_iff.1 (unhide HN)).1).trans (unhide HN)))
  have OF : offP g' (peA (.slice Y01 (inF z.x f1).q.length Y02) (inF z.x f1).s (inF z.x f1).e (.slice Y03 (inF z.x f1).i.length Y04)) := offP_far fa (unhide OX g' (by omega)) (by omega)
  have PN0 := hide (peV_lone8 pv LN OF)
  have ON0 := hide OF
  have FRW0 : Hid (∀ b, b < w.heap.size → offP b (peA (.slice A0 z.x.q.length r0) z.x.s z.x.e (.slice B0 z.x.i.length r1)) → offP b (peA (.slice Y01 (inF z.x f1).q.length Y02) (inF z.x f1).s (inF z.x f1).e (.slice Y03 (inF z.x f1).i.length Y04))) := hide (fun b hb ho => offP_far fa ho (by omega))
  have CN0 := hide cq
  have PN1' := hide (peV_lone8 ((unhide PN1).below s1) LN (unhide ON1))
  clear x0 x1 x2 x3 y0 y1 y2 y3 LN s1 SG SF hS0 pv cq fa lg l6 zw z2 z3 z4 szd R8 b OF HB HN PN1
  have HB := HB'
  have HN := HN'
  have PN1 := PN1'
  clear HB' HN' PN1'
  have R8 := R9
  clear R9
  generalize (((wi0.setCell ⟨g', 0, none⟩ (.slice Y01 (inF z.x f1).q.length Y02)).setCell ⟨g', 1, none⟩ (.int .i64 (inF z.x f1).s)).setCell ⟨g', 2, none⟩ (.int .i64 (inF z.x f1).e)).setCell ⟨g', 3, none⟩ (.slice Y03 (inF z.x f1).i.length Y04) = wb at *
  go_wp2
  go_ret2
  rw [unhide HF]
  refine ⟨_, rfl, ⟨g', c', _, _, _, _, rs, rfl, (unhide LG).2, unhide R8, unhide PN0, unhide CN0, unhide PN1, unhide CN1⟩, fun b hb ho => ?_, unhide HB⟩
  obtain ⟨t0, t3, t4, t7⟩ := unhide OT b ho
  obtain ⟨u0, u3⟩ := offP_parts (unhide FRW0 b hb ⟨_, _, _, _, rfl, t0, t3⟩)
  obtain ⟨u4, u7⟩ := offP_parts (unhide FRW1 b hb ⟨_, _, _, _, rfl, t4, t7⟩)
  exact ⟨g', c', _, _, _, _, _, _, _, _, rs, rfl, unhide R8, u0, u3, u4, u7⟩
theorem step_round01 (v : Value) (z : Tw) (a : Ta) (w : World) (hv : twV w v z) (hx : peFew z.x) (hy : peFew z.y) (ht : a.t.size ≤ maxLen) (sx : 0 ≤ z.x.s ∧ z.x.s ≤ 1048576) (ex : 0 ≤ z.x.e ∧ z.x.e ≤ 1048576) (sy : 0 ≤ z.y.s ∧ z.y.s ≤ 1048576) (ey : 0 ≤ z.y.e ∧ z.y.e ≤ 1048576) (h2 : a.k = 2) (hla : a.la = false) (hlb : a.lb = true) :
    Calls Tryz.prog 22 #[v, taV a] w fun e w' => ∃ r, e = .returned (.tuple #[r, .int .i64 (stepF z a).2]) ∧ twV w' r (stepF z a).1 ∧ (∀ b, b < w.heap.size → offT b w v → offT b w' r) ∧ Below w.heap.size w w' := by
  obtain ⟨g, c, q0, i0, q1, i1, rest, rfl, hc, hr, hp, kp, hq, kq⟩ := hv
  obtain ⟨A0, r0, B0, r1, e0⟩ := hp.slices
  obtain ⟨A1, r2, B1, r3, e1⟩ := hq.slices
  have e00 : q0 = .slice A0 z.x.q.length r0 ∧ i0 = .slice B0 z.x.i.length r1 := peA_inj e0
  have e11 : q1 = .slice A1 z.y.q.length r2 ∧ i1 = .slice B1 z.y.i.length r3 := peA_inj e1
  obtain ⟨rfl, rfl⟩ := e00
  obtain ⟨rfl, rfl⟩ := e11
  clear e0 e1
  have B1w : Below w.heap.size w (w.alloc (.cells #[.int .i64 a.k, .int .i64 a.w, .string a.t, .bool a.la, .bool a.lb] 27)) := bl_al (Below.refl _ _)
  have HB := hide B1w
  have HR := hide (hr.below B1w)
  have HP := hide (hp.below B1w)
  have HQ := hide (hq.below B1w)
  have KP := hide kp
  have KQ := hide kq
  have HN := hide (heap_alloc_new w (.cells #[.int .i64 a.k, .int .i64 a.w, .string a.t, .bool a.la, .bool a.lb] 27))
  have HCC := hide hc
  have VV : Hid (twV (w.alloc (.cells #[.int .i64 a.k, .int .i64 a.w, .string a.t, .bool a.la, .bool a.lb] 27)) (.slice (some ⟨g, 0, none⟩) 2 c) z) := hide ⟨g, c, _, _, _, _, rest, rfl, hc, hr.below B1w, hp.below B1w, kp, hq.below B1w, kq⟩
  have OT := hide (fun b (ho : offT b w (.slice (some ⟨g, 0, none⟩) 2 c)) => ho.row hr)
  show Calls Tryz.prog 22 #[.slice (some ⟨g, 0, none⟩) 2 c, taA a.k a.w a.t a.la a.lb] w _
  have gl := hr.lt
  have HF := hide (show stepF z a = (⟨z.x, inF z.y (outF z.x)⟩, 0) by unfold stepF; rw [if_neg (by omega), if_pos h2, hla, hlb]; rfl)
  have KO := hide (fun (p : Pe) u W (h : peV W u p) (hf : peFew p) => out61 u p W h hf)
  have KX := hide (fun u W (h : peV W u z.x) (hc : capQ u z.x) => in57 u z.x (outF z.y) W h hc hx sx ex)
  have KY := hide (fun u W (h : peV W u z.y) (hc : capQ u z.y) => in57 u z.y (outF z.x) W h hc hy sy ey)
  have FX := hide hx
  have FY := hide hy
  have ka : (w.alloc (.cells #[.int .i64 a.k, .int .i64 a.w, .string a.t, .bool a.la, .bool a.lb] 27)).cell? ⟨w.heap.size, 0, none⟩ = some (.int .i64 2) := by rw [← h2]; exact row_cell (unhide HN)
  have ZW : Hid (g < w.heap.size ∧ (w.alloc (.cells #[.int .i64 a.k, .int .i64 a.w, .string a.t, .bool a.la, .bool a.lb] 27)).heap.size = w.heap.size + 1) := hide ⟨gl, by simp⟩
  have K1 := hide (unhide KO z.x _ _ (unhide HP) (unhide FX))
  have K2 := hide (fun u W h => unhide KO z.y u W h (unhide FY))
  generalize hf0 : outF z.x = f0 at *
  generalize hf1 : outF z.y = f1 at *
  rw [h2, hla, hlb] at *
  have k0 := (unhide HR).c0
  have k1 := (unhide HR).c1
  have k2 := (unhide HR).c2
  have k3 := (unhide HR).c3
  have k4 := (unhide HR).c4
  have k5 := (unhide HR).c5
  have k6 := (unhide HR).c6
  have k7 := (unhide HR).c7
  have OX := hide (fun b (hb : w.heap.size ≤ b) => offP_old hp hb)
  have OY := hide (fun b (hb : w.heap.size ≤ b) => offP_old hq hb)
  clear hr hp hq kp kq B1w hx hy sx ex sy ey ht h2 ka gl hf0 hf1 VV KO FX FY hc
  go_enter Tryz.func22, Tryz.ntmps22
  go_wp2_with fail
  generalize hw1 : w.alloc (.cells #[.int .i64 2, .int .i64 a.w, .string a.t, .bool false, .bool true] 27) = w1 at *
  clear hw1 hla hlb
  refine (unhide K1).mono ?_
  rintro e1 w2 ⟨rfl, b2⟩
  have bA : Below w1.heap.size w1 (w2.alloc (.cells #[.int .i64 f0.s, .int .i64 f0.a, .bool f0.h, .string f0.b] 75)) := bl_al b2
  have HB := hide (bl_st bA (unhide HB))
  have HR := hide ((unhide HR).below bA)
  have HP := hide ((unhide HP).below bA)
  have HQ := hide ((unhide HQ).below bA)
  have HN := hide ((bA.block _ (Array.getElem?_eq_some_iff.1 (unhide HN)).1).trans (unhide HN))
  have FA1 := hide (fc_new w2 f0.s f0.a f0.h f0.b 75)
  have Z2 := hide b2.size
  clear b2 bA K1 k0 k1 k2 k3 k4 k5 k6 k7
  have k0 := (unhide HR).c0
  have k1 := (unhide HR).c1
  have k2 := (unhide HR).c2
  have k3 := (unhide HR).c3
  have k4 := (unhide HR).c4
  have k5 := (unhide HR).c5
  have k6 := (unhide HR).c6
  have k7 := (unhide HR).c7
  go_wp2_with fail
  generalize hw3 : w2.alloc (.cells #[.int .i64 f0.s, .int .i64 f0.a, .bool f0.h, .string f0.b] 75) = w3 at *
  have Z3 : Hid (w3.heap.size = w2.heap.size + 1) := hide (by rw [← hw3]; simp)
  clear hw3
  refine (unhide K2 _ w3 (unhide HQ)).mono ?_
  rintro e1 w4 ⟨rfl, b4⟩
  have bA : Below w3.heap.size w3 (w4.alloc (.cells #[.int .i64 f1.s, .int .i64 f1.a, .bool f1.h, .string f1.b] 75)) := bl_al b4
  have HB := hide (bl_st bA (unhide HB))
  have HR := hide ((unhide HR).below bA)
  have HP := hide ((unhide HP).below bA)
  have HQ := hide ((unhide HQ).below bA)
  have HN := hide ((bA.block _ (Array.getElem?_eq_some_iff.1 (unhide HN)).1).trans (unhide HN))
  have FA1 := hide ((unhide FA1).below bA)
  have FA0 := hide (fc_new w4 f1.s f1.a f1.h f1.b 75)
  have Z4 := hide b4.size
  clear b4 bA K2 k0 k1 k2 k3 k4 k5 k6 k7
  have E5 : Hid (w4.heap.size + 1 = (w4.alloc (.cells #[.int .i64 f1.s, .int .i64 f1.a, .bool f1.h, .string f1.b] 75)).heap.size) := hide (by simp)
  go_wp2_with (at_builtin; refine wpList_copy8 (w4.alloc (.cells #[.int .i64 f1.s, .int .i64 f1.a, .bool f1.h, .string f1.b] 75)) rfl _ _ rfl (w4.heap.size + 1) g c (unhide E5) (.slice A0 z.x.q.length r0) (.int .i64 z.x.s) (.int .i64 z.x.e) (.slice B0 z.x.i.length r1) (.slice A1 z.y.q.length r2) (.int .i64 z.y.s) (.int .i64 z.y.e) (.slice B1 z.y.i.length r3) rest rfl rfl (unhide HR) (by simp [Value.oneCell']) ?_
               intro g' c' w6 rs b6 row6 lg6 hc6
               have HB := hide (bl_st b6 (unhide HB))
               have HP := hide ((unhide HP).below b6)
               have HQ := hide ((unhide HQ).below b6)
               have HN := hide ((b6.block _ (Array.getElem?_eq_some_iff.1 (unhide HN)).1).trans (unhide HN))
               have FA1 := hide ((unhide FA1).below b6)
               have FA0 := hide ((unhide FA0).below b6)
               have R8 := hide row6
               have LG := hide (show w4.heap.size + 1 ≤ g' ∧ 2 ≤ c' from ⟨by have := unhide E5; omega, hc6⟩)
               have ka3 : w6.cell? ⟨w.heap.size, 3, none⟩ = some (.bool false) := row_cell (unhide HN)
               have ka4 : w6.cell? ⟨w.heap.size, 4, none⟩ = some (.bool true) := row_cell (unhide HN)
               clear b6 row6 lg6 hc6 HR E5)
  clear ka4
  refine wp_region_late (S := fun W' => row8 W' g' (.slice A0 z.x.q.length r0) (.int .i64 z.x.s) (.int .i64 z.x.e) (.slice B0 z.x.i.length r1) (.slice A1 z.y.q.length r2) (.int .i64 z.y.s) (.int .i64 z.y.e) (.slice B1 z.y.i.length r3) rs ∧ FC (w2.heap.size) f0.s f0.a f0.h f0.b W') (late := [7]) (by kernel_rfl) ?_
  have hS0 : Below w6.heap.size w6 { w6 with drawn := w6.drawn + 1 } := below_drewN (Below.refl _ _) 1
  have SF : _ ∧ _ := ⟨(unhide R8).below hS0, (unhide FA1).below hS0⟩
  refine wpAnyL_take (i := 0) (oi := { dst := some 59, op := Op.move (Operand.tmp 11), type := 41, pos := "l15_talk.go:103", after := #[], guard := none }) (v := ?_) rfl (by kernel_rfl) (by kernel_rfl) (by kernel_rfl) (by kernel_rfl) (fun _ _ _ h => h) (Or.inl ⟨by rfl, ?_⟩) SF ?_
  rotate_left
  · intro W hSw
    have k0 := hSw.1.c0
    have k1 := hSw.1.c1
    have k2 := hSw.1.c2
    have k3 := hSw.1.c3
    have k4 := hSw.1.c4
    have k5 := hSw.1.c5
    have k6 := hSw.1.c6
    have k7 := hSw.1.c7
    obtain ⟨_, d0, d1, d2, d3⟩ := hSw.2
    go_simp
    try with_reducible rfl
  simp only [Act.put, List.setIfInBounds_toArray, List.set_cons_zero, List.set_cons_succ]
  refine wpAnyL_take (i := 1) (oi := { dst := some 60, op := Op.move (Operand.tmp 11), type := 41, pos := "l15_talk.go:103", after := #[], guard := none }) (v := ?_) rfl (by kernel_rfl) (by kernel_rfl) (by kernel_rfl) (by kernel_rfl) (fun _ _ _ h => h) (Or.inl ⟨by rfl, ?_⟩) SF ?_
  rotate_left
  · intro W hSw
    have k0 := hSw.1.c0
    have k1 := hSw.1.c1
    have k2 := hSw.1.c2
    have k3 := hSw.1.c3
    have k4 := hSw.1.c4
    have k5 := hSw.1.c5
    have k6 := hSw.1.c6
    have k7 := hSw.1.c7
    obtain ⟨_, d0, d1, d2, d3⟩ := hSw.2
    go_simp
    try with_reducible rfl
  simp only [Act.put, List.setIfInBounds_toArray, List.set_cons_zero, List.set_cons_succ]
  refine wpAnyL_take (i := 2) (oi := { dst := some 61, op := Op.indexAddr 41 (Operand.tmp 60) (Operand.const (Value.int IntKind.i64 1)), type := 0, pos := "l15_talk.go:103", after := #[{ on := 1, ground := Ground.data }], guard := none }) (v := ?_) rfl (by kernel_rfl) (by kernel_rfl) (by kernel_rfl) (by kernel_rfl) (fun _ _ _ h => h) (Or.inl ⟨by rfl, ?_⟩) SF ?_
  rotate_left
  · intro W hSw
    have k0 := hSw.1.c0
    have k1 := hSw.1.c1
    have k2 := hSw.1.c2
    have k3 := hSw.1.c3
    have k4 := hSw.1.c4
    have k5 := hSw.1.c5
    have k6 := hSw.1.c6
    have k7 := hSw.1.c7
    obtain ⟨_, d0, d1, d2, d3⟩ := hSw.2
    go_simp
    try with_reducible rfl
  simp only [Act.put, List.setIfInBounds_toArray, List.set_cons_zero, List.set_cons_succ]
  refine wpAnyL_take (i := 3) (oi := { dst := some 62, op := Op.load 53 (Operand.tmp 61), type := 53, pos := "l15_talk.go:103", after := #[{ on := 2, ground := Ground.data }], guard := none }) (v := ?_) rfl (by kernel_rfl) (by kernel_rfl) (by kernel_rfl) (by kernel_rfl) (fun _ _ _ h => h) (Or.inl ⟨by rfl, ?_⟩) SF ?_
  rotate_left
  · intro W hSw
    have k0 := hSw.1.c0
    have k1 := hSw.1.c1
    have k2 := hSw.1.c2
    have k3 := hSw.1.c3
    have k4 := hSw.1.c4
    have k5 := hSw.1.c5
    have k6 := hSw.1.c6
    have k7 := hSw.1.c7
    obtain ⟨_, d0, d1, d2, d3⟩ := hSw.2
    go_simp
    try with_reducible rfl
  simp only [Act.put, List.setIfInBounds_toArray, List.set_cons_zero, List.set_cons_succ]
  refine wpAnyL_take (i := 4) (oi := { dst := some 63, op := Op.load 75 (Operand.tmp 9), type := 75, pos := "l15_talk.go:103", after := #[], guard := none }) (v := ?_) rfl (by kernel_rfl) (by kernel_rfl) (by kernel_rfl) (by kernel_rfl) (fun _ _ _ h => h) (Or.inl ⟨by rfl, ?_⟩) SF ?_
  rotate_left
  · intro W hSw
    have k0 := hSw.1.c0
    have k1 := hSw.1.c1
    have k2 := hSw.1.c2
    have k3 := hSw.1.c3
    have k4 := hSw.1.c4
    have k5 := hSw.1.c5
    have k6 := hSw.1.c6
    have k7 := hSw.1.c7
    obtain ⟨_, d0, d1, d2, d3⟩ := hSw.2
    go_simp
    try with_reducible rfl
  simp only [Act.put, List.setIfInBounds_toArray, List.set_cons_zero, List.set_cons_succ]
  refine wpAnyL_one (i := 5) (by kernel_rfl) ?_
  refine wpOp_step (o := { dst := some 64, op := Op.call { callee := Callee.value (Operand.func 40), args := #[Operand.tmp 62, Operand.tmp 63], argTypes := #[53, 75] }, type := 53, pos := "l15_talk.go:103", after := #[{ on := 3, ground := Ground.data }, { on := 4, ground := Ground.data }], guard := none }) rfl fun K' hK => step_enterW (by rfl) 40 #[peA (.slice A1 z.y.q.length r2) z.y.s z.y.e (.slice B1 z.y.i.length r3), frV f0] (by go_simp) ((unhide KY _ _ ((unhide HQ).below hS0) (unhide KQ)).mono ?_)
  rintro e wi1 ⟨r, rfl, pv, cq, fa, b⟩
  have s1 := bl_st b hS0
  have SG : _ ∧ _ := ⟨(unhide R8).below s1, (unhide FA1).below s1⟩
  obtain ⟨Y11, Y12, Y13, Y14, hre⟩ := pv.slices
  subst hre
  refine ⟨_, rfl, hK _ _ ⟨(fun _ => SG), ?_⟩⟩
  simp only [Act.put, List.setIfInBounds_toArray, List.set_cons_zero, List.set_cons_succ]
  have x0 := SG.1.c4
  have y0 := SG.1.fz 4
  have x1 := SG.1.c5
  have y1 := SG.1.fz 5
  have x2 := SG.1.c6
  have y2 := SG.1.fz 6
  have x3 := SG.1.c7
  have y3 := SG.1.fz 7
  refine wpAnyL_one (i := 6) (by kernel_rfl) ?_
  refine wpOp_step (o := { dst := some 65, op := Op.indexAddr 41 (Operand.tmp 59) (Operand.const (Value.int IntKind.i64 1)), type := 0, pos := "l15_talk.go:103", after := #[{ on := 0, ground := Ground.data }, { on := 0, ground := Ground.phase }, { on := 1, ground := Ground.phase }, { on := 2, ground := Ground.phase }, { on := 3, ground := Ground.phase }, { on := 4, ground := Ground.phase }, { on := 5, ground := Ground.phase }], guard := none }) rfl fun K' hK => step_valueW (by rfl) (.pointer (some ⟨g', 4, none⟩)) (wi1) (by go_simp) ?_
  refine hK _ _ ⟨(fun _ => SG), ?_⟩
  simp only [Act.put, List.setIfInBounds_toArray, List.set_cons_zero, List.set_cons_succ]
  refine wpAnyL_one (i := 7) (by kernel_rfl) ?_
  refine wpOp_step (o := { dst := none, op := Op.store 53 (Operand.tmp 65) (Operand.tmp 64), type := 0, pos := "l15_talk.go:103", after := #[{ on := 6, ground := Ground.data }, { on := 5, ground := Ground.data }, { on := 5, ground := Ground.chain }, { on := 0, ground := Ground.phase }, { on := 1, ground := Ground.phase }, { on := 2, ground := Ground.phase }, { on := 3, ground := Ground.phase }, { on := 4, ground := Ground.phase }, { on := 5, ground := Ground.phase }], guard := none }) rfl fun K' hK => step_skipW (by rfl) ((((wi1.setCell ⟨g', 4, none⟩ (.slice Y11 (inF z.y f0).q.length Y12)).setCell ⟨g', 5, none⟩ (.int .i64 (inF z.y f0).s)).setCell ⟨g', 6, none⟩ (.int .i64 (inF z.y f0).e)).setCell ⟨g', 7, none⟩ (.slice Y13 (inF z.y f0).i.length Y14)) (by go_simp) ?_
  refine hK _ _ ⟨(fun h => by cases h), ?_⟩
  try simp only [Act.put]
  refine wpAnyL_done (by kernel_rfl) ?_ _
  have LN : Lone g' wi1 ((((wi1.setCell ⟨g', 4, none⟩ (.slice Y11 (inF z.y f0).q.length Y12)).setCell ⟨g', 5, none⟩ (.int .i64 (inF z.y f0).s)).setCell ⟨g', 6, none⟩ (.int .i64 (inF z.y f0).e)).setCell ⟨g', 7, none⟩ (.slice Y13 (inF z.y f0).i.length Y14)) := lone_put wi1 g' 4 5 6 7 _ _ _ _
  have lg := unhide LG
  have l6 := (unhide R8).lt
  have zw := unhide ZW
  have z2 := unhide Z2
  have z3 := unhide Z3
  have z4 := unhide Z4
  have szd : { w6 with drawn := w6.drawn + 1 }.heap.size = w6.heap.size := rfl
  have R9 := hide (SG.1.put4 (.slice Y11 (inF z.y f0).q.length Y12) (.int .i64 (inF z.y f0).s) (.int .i64 (inF z.y f0).e) (.slice Y13 (inF z.y f0).i.length Y14))
  have HB' := hide (LN.below (bl_st s1 (unhide HB)) (by omega) (bl_st s1 (unhide HB)).size)
  have HN' := hide ((LN.block _ (by have := s1.size; omega) (by omega)).trans ((s1.block _ (Array.getElem?_eq_some_iff.1 (unhide HN)).1).trans (unhide HN)))
  have OF : offP g' (peA (.slice Y11 (inF z.y f0).q.length Y12) (inF z.y f0).s (inF z.y f0).e (.slice Y13 (inF z.y f0).i.length Y14)) := offP_far fa (unhide OY g' (by omega)) (by omega)
  have PN1 := hide (peV_lone8 pv LN OF)
  have ON1 := hide OF
  have FRW1 : Hid (∀ b, b < w.heap.size → offP b (peA (.slice A1 z.y.q.length r2) z.y.s z.y.e (.slice B1 z.y.i.length r3)) → offP b (peA (.slice Y11 (inF z.y f0).q.length Y12) (inF z.y f0).s (inF z.y f0).e (.slice Y13 (inF z.y f0).i.length Y14))) := hide (fun b hb ho => offP_far fa ho (by omega))
  have CN1 := hide cq
  have HP' := hide (peV_lone8 ((unhide HP).below s1) LN (unhide OX g' (by omega)))
  have FA0' := hide (FC_lone ((unhide FA0).below s1) LN (by omega))
  clear x0 x1 x2 x3 y0 y1 y2 y3 LN s1 SG SF hS0 pv cq fa lg l6 zw z2 z3 z4 szd R8 b OF HB HN HP FA0
  have HB := HB'
  have HN := HN'
  have HP := HP'
  have FA0 := FA0'
  clear HB' HN' HP' FA0'
  have R8 := R9
  clear R9
  generalize (((wi1.setCell ⟨g', 4, none⟩ (.slice Y11 (inF z.y f0).q.length Y12)).setCell ⟨g', 5, none⟩ (.int .i64 (inF z.y f0).s)).setCell ⟨g', 6, none⟩ (.int .i64 (inF z.y f0).e)).setCell ⟨g', 7, none⟩ (.slice Y13 (inF z.y f0).i.length Y14) = wa at *
  have ka4 : wa.cell? ⟨w.heap.size, 4, none⟩ = some (.bool true) := row_cell (unhide HN)
  go_wp2
  go_ret2
  rw [unhide HF]
  refine ⟨_, rfl, ⟨g', c', _, _, _, _, rs, rfl, (unhide LG).2, unhide R8, unhide HP, unhide KP, unhide PN1, unhide CN1⟩, fun b hb ho => ?_, unhide HB⟩
  obtain ⟨t0, t3, t4, t7⟩ := unhide OT b ho
  have u0 := t0
  have u3 := t3
  obtain ⟨u4, u7⟩ := offP_parts (unhide FRW1 b hb ⟨_, _, _, _, rfl, t4, t7⟩)
  exact ⟨g', c', _, _, _, _, _, _, _, _, rs, rfl, unhide R8, u0, u3, u4, u7⟩
theorem step_round10 (v : Value) (z : Tw) (a : Ta) (w : World) (hv : twV w v z) (hx : peFew z.x) (hy : peFew z.y) (ht : a.t.size ≤ maxLen) (sx : 0 ≤ z.x.s ∧ z.x.s ≤ 1048576) (ex : 0 ≤ z.x.e ∧ z.x.e ≤ 1048576) (sy : 0 ≤ z.y.s ∧ z.y.s ≤ 1048576) (ey : 0 ≤ z.y.e ∧ z.y.e ≤ 1048576) (h2 : a.k = 2) (hla : a.la = true) (hlb : a.lb = false) :
    Calls Tryz.prog 22 #[v, taV a] w fun e w' => ∃ r, e = .returned (.tuple #[r, .int .i64 (stepF z a).2]) ∧ twV w' r (stepF z a).1 ∧ (∀ b, b < w.heap.size → offT b w v → offT b w' r) ∧ Below w.heap.size w w' := by
  obtain ⟨g, c, q0, i0, q1, i1, rest, rfl, hc, hr, hp, kp, hq, kq⟩ := hv
  obtain ⟨A0, r0, B0, r1, e0⟩ := hp.slices
  obtain ⟨A1, r2, B1, r3, e1⟩ := hq.slices
  have e00 : q0 = .slice A0 z.x.q.length r0 ∧ i0 = .slice B0 z.x.i.length r1 := peA_inj e0
  have e11 : q1 = .slice A1 z.y.q.length r2 ∧ i1 = .slice B1 z.y.i.length r3 := peA_inj e1
  obtain ⟨rfl, rfl⟩ := e00
  obtain ⟨rfl, rfl⟩ := e11
  clear e0 e1
  have B1w : Below w.heap.size w (w.alloc (.cells #[.int .i64 a.k, .int .i64 a.w, .string a.t, .bool a.la, .bool a.lb] 27)) := bl_al (Below.refl _ _)
  have HB := hide B1w
  have HR := hide (hr.below B1w)
  have HP := hide (hp.below B1w)
  have HQ := hide (hq.below B1w)
  have KP := hide kp
  have KQ := hide kq
  have HN := hide (heap_alloc_new w (.cells #[.int .i64 a.k, .int .i64 a.w, .string a.t, .bool a.la, .bool a.lb] 27))
  have HCC := hide hc
  have VV : Hid (twV (w.alloc (.cells #[.int .i64 a.k, .int .i64 a.w, .string a.t, .bool a.la, .bool a.lb] 27)) (.slice (some ⟨g, 0, none⟩) 2 c) z) := hide ⟨g, c, _, _, _, _, rest, rfl, hc, hr.below B1w, hp.below B1w, kp, hq.below B1w, kq⟩
  have OT := hide (fun b (ho : offT b w (.slice (some ⟨g, 0, none⟩) 2 c)) => ho.row hr)
  show Calls Tryz.prog 22 #[.slice (some ⟨g, 0, none⟩) 2 c, taA a.k a.w a.t a.la a.lb] w _
  have gl := hr.lt
  have HF := hide (show stepF z a = (⟨inF z.x (outF z.y), z.y⟩, 0) by unfold stepF; rw [if_neg (by omega), if_pos h2, hla, hlb]; rfl)
  have KO := hide (fun (p : Pe) u W (h : peV W u p) (hf : peFew p) => out61 u p W h hf)
  have KX := hide (fun u W (h : peV W u z.x) (hc : capQ u z.x) => in57 u z.x (outF z.y) W h hc hx sx ex)
  have KY := hide (fun u W (h : peV W u z.y) (hc : capQ u z.y) => in57 u z.y (outF z.x) W h hc hy sy ey)
  have FX := hide hx
  have FY := hide hy
  have ka : (w.alloc (.cells #[.int .i64 a.k, .int .i64 a.w, .string a.t, .bool a.la, .bool a.lb] 27)).cell? ⟨w.heap.size, 0, none⟩ = some (.int .i64 2) := by rw [← h2]; exact row_cell (unhide HN)
  have ZW : Hid (g < w.heap.size ∧ (w.alloc (.cells #[.int .i64 a.k, .int .i64 a.w, .string a.t, .bool a.la, .bool a.lb] 27)).heap.size = w.heap.size + 1) := hide ⟨gl, by simp⟩
  have K1 := hide (unhide KO z.x _ _ (unhide HP) (unhide FX))
  have K2 := hide (fun u W h => unhide KO z.y u W h (unhide FY))
  generalize hf0 : outF z.x = f0 at *
  generalize hf1 : outF z.y = f1 at *
  rw [h2, hla, hlb] at *
  have k0 := (unhide HR).c0
  have k1 := (unhide HR).c1
  have k2 := (unhide HR).c2
  have k3 := (unhide HR).c3
  have k4 := (unhide HR).c4
  have k5 := (unhide HR).c5
  have k6 := (unhide HR).c6
  have k7 := (unhide HR).c7
  have OX := hide (fun b (hb : w.heap.size ≤ b) => offP_old hp hb)
  have OY := hide (fun b (hb : w.heap.size ≤ b) => offP_old hq hb)
  clear hr hp hq kp kq B1w hx hy sx ex sy ey ht h2 ka gl hf0 hf1 VV KO FX FY hc
  go_enter Tryz.func22, Tryz.ntmps22
  go_wp2_with fail
  generalize hw1 : w.alloc (.cells #[.int .i64 2, .int .i64 a.w, .string a.t, .bool true, .bool false] 27) = w1 at *
  clear hw1 hla hlb
  refine (unhide K1).mono ?_
  rintro e1 w2 ⟨rfl, b2⟩
  have bA : Below w1.heap.size w1 (w2.alloc (.cells #[.int .i64 f0.s, .int .i64 f0.a, .bool f0.h, .string f0.b] 75)) := bl_al b2
  have HB := hide (bl_st bA (unhide HB))
  have HR := hide ((unhide HR).below bA)
  have HP := hide ((unhide HP).below bA)
  have HQ := hide ((unhide HQ).below bA)
  have HN := hide ((bA.block _ (Array.getElem?_eq_some_iff.1 (unhide HN)).1).trans (unhide HN))
  have FA1 := hide (fc_new w2 f0.s f0.a f0.h f0.b 75)
  have Z2 := hide b2.size
  clear b2 bA K1 k0 k1 k2 k3 k4 k5 k6 k7
  have k0 := (unhide HR).c0
  have k1 := (unhide HR).c1
  have k2 := (unhide HR).c2
  have k3 := (unhide HR).c3
  have k4 := (unhide HR).c4
  have k5 := (unhide HR).c5
  have k6 := (unhide HR).c6
  have k7 := (unhide HR).c7
  go_wp2_with fail
  generalize hw3 : w2.alloc (.cells #[.int .i64 f0.s, .int .i64 f0.a, .bool f0.h, .string f0.b] 75) = w3 at *
  have Z3 : Hid (w3.heap.size = w2.heap.size + 1) := hide (by rw [← hw3]; simp)
  clear hw3
  refine (unhide K2 _ w3 (unhide HQ)).mono ?_
  rintro e1 w4 ⟨rfl, b4⟩
  have bA : Below w3.heap.size w3 (w4.alloc (.cells #[.int .i64 f1.s, .int .i64 f1.a, .bool f1.h, .string f1.b] 75)) := bl_al b4
  have HB := hide (bl_st bA (unhide HB))
  have HR := hide ((unhide HR).below bA)
  have HP := hide ((unhide HP).below bA)
  have HQ := hide ((unhide HQ).below bA)
  have HN := hide ((bA.block _ (Array.getElem?_eq_some_iff.1 (unhide HN)).1).trans (unhide HN))
  have FA1 := hide ((unhide FA1).below bA)
  have FA0 := hide (fc_new w4 f1.s f1.a f1.h f1.b 75)
  have Z4 := hide b4.size
  clear b4 bA K2 k0 k1 k2 k3 k4 k5 k6 k7
  have E5 : Hid (w4.heap.size + 1 = (w4.alloc (.cells #[.int .i64 f1.s, .int .i64 f1.a, .bool f1.h, .string f1.b] 75)).heap.size) := hide (by simp)
  go_wp2_with (at_builtin; refine wpList_copy8 (w4.alloc (.cells #[.int .i64 f1.s, .int .i64 f1.a, .bool f1.h, .string f1.b] 75)) rfl _ _ rfl (w4.heap.size + 1) g c (unhide E5) (.slice A0 z.x.q.length r0) (.int .i64 z.x.s) (.int .i64 z.x.e) (.slice B0 z.x.i.length r1) (.slice A1 z.y.q.length r2) (.int .i64 z.y.s) (.int .i64 z.y.e) (.slice B1 z.y.i.length r3) rest rfl rfl (unhide HR) (by simp [Value.oneCell']) ?_
               intro g' c' w6 rs b6 row6 lg6 hc6
               have HB := hide (bl_st b6 (unhide HB))
               have HP := hide ((unhide HP).below b6)
               have HQ := hide ((unhide HQ).below b6)
               have HN := hide ((b6.block _ (Array.getElem?_eq_some_iff.1 (unhide HN)).1).trans (unhide HN))
               have FA1 := hide ((unhide FA1).below b6)
               have FA0 := hide ((unhide FA0).below b6)
               have R8 := hide row6
               have LG := hide (show w4.heap.size + 1 ≤ g' ∧ 2 ≤ c' from ⟨by have := unhide E5; omega, hc6⟩)
               have ka3 : w6.cell? ⟨w.heap.size, 3, none⟩ = some (.bool true) := row_cell (unhide HN)
               have ka4 : w6.cell? ⟨w.heap.size, 4, none⟩ = some (.bool false) := row_cell (unhide HN)
               clear b6 row6 lg6 hc6 HR E5)
  refine wp_region_late (S := fun W' => row8 W' g' (.slice A0 z.x.q.length r0) (.int .i64 z.x.s) (.int .i64 z.x.e) (.slice B0 z.x.i.length r1) (.slice A1 z.y.q.length r2) (.int .i64 z.y.s) (.int .i64 z.y.e) (.slice B1 z.y.i.length r3) rs ∧ FC (w4.heap.size) f1.s f1.a f1.h f1.b W') (late := [7]) (by kernel_rfl) ?_
  have hS0 : Below w6.heap.size w6 { w6 with drawn := w6.drawn + 1 } := below_drewN (Below.refl _ _) 1
  have SF : _ ∧ _ := ⟨(unhide R8).below hS0, (unhide FA0).below hS0⟩
  refine wpAnyL_take (i := 0) (oi := { dst := some 69, op := Op.move (Operand.tmp 11), type := 41, pos := "l15_talk.go:106", after := #[], guard := none }) (v := ?_) rfl (by kernel_rfl) (by kernel_rfl) (by kernel_rfl) (by kernel_rfl) (fun _ _ _ h => h) (Or.inl ⟨by rfl, ?_⟩) SF ?_
  rotate_left
  · intro W hSw
    have k0 := hSw.1.c0
    have k1 := hSw.1.c1
    have k2 := hSw.1.c2
    have k3 := hSw.1.c3
    have k4 := hSw.1.c4
    have k5 := hSw.1.c5
    have k6 := hSw.1.c6
    have k7 := hSw.1.c7
    obtain ⟨_, d0, d1, d2, d3⟩ := hSw.2
    go_simp
    try with_reducible rfl
  simp only [Act.put, List.setIfInBounds_toArray, List.set_cons_zero, List.set_cons_succ]
  refine wpAnyL_take (i := 1) (oi := { dst := some 70, op := Op.move (Operand.tmp 11), type := 41, pos := "l15_talk.go:106", after := #[], guard := none }) (v := ?_) rfl (by kernel_rfl) (by kernel_rfl) (by kernel_rfl) (by kernel_rfl) (fun _ _ _ h => h) (Or.inl ⟨by rfl, ?_⟩) SF ?_
  rotate_left
  · intro W hSw
    have k0 := hSw.1.c0
    have k1 := hSw.1.c1
    have k2 := hSw.1.c2
    have k3 := hSw.1.c3
    have k4 := hSw.1.c4
    have k5 := hSw.1.c5
    have k6 := hSw.1.c6
    have k7 := hSw.1.c7
    obtain ⟨_, d0, d1, d2, d3⟩ := hSw.2
    go_simp
    try with_reducible rfl
  simp only [Act.put, List.setIfInBounds_toArray, List.set_cons_zero, List.set_cons_succ]
  refine wpAnyL_take (i := 2) (oi := { dst := some 71, op := Op.indexAddr 41 (Operand.tmp 70) (Operand.const (Value.int IntKind.i64 0)), type := 0, pos := "l15_talk.go:106", after := #[{ on := 1, ground := Ground.data }], guard := none }) (v := ?_) rfl (by kernel_rfl) (by kernel_rfl) (by kernel_rfl) (by kernel_rfl) (fun _ _ _ h => h) (Or.inl ⟨by rfl, ?_⟩) SF ?_
  rotate_left
  · intro W hSw
    have k0 := hSw.1.c0
    have k1 := hSw.1.c1
    have k2 := hSw.1.c2
    have k3 := hSw.1.c3
    have k4 := hSw.1.c4
    have k5 := hSw.1.c5
    have k6 := hSw.1.c6
    have k7 := hSw.1.c7
    obtain ⟨_, d0, d1, d2, d3⟩ := hSw.2
    go_simp
    try with_reducible rfl
  simp only [Act.put, List.setIfInBounds_toArray, List.set_cons_zero, List.set_cons_succ]
  refine wpAnyL_take (i := 3) (oi := { dst := some 72, op := Op.load 53 (Operand.tmp 71), type := 53, pos := "l15_talk.go:106", after := #[{ on := 2, ground := Ground.data }], guard := none }) (v := ?_) rfl (by kernel_rfl) (by kernel_rfl) (by kernel_rfl) (by kernel_rfl) (fun _ _ _ h => h) (Or.inl ⟨by rfl, ?_⟩) SF ?_
  rotate_left
  · intro W hSw
    have k0 := hSw.1.c0
    have k1 := hSw.1.c1
    have k2 := hSw.1.c2
    have k3 := hSw.1.c3
    have k4 := hSw.1.c4
    have k5 := hSw.1.c5
    have k6 := hSw.1.c6
    have k7 := hSw.1.c7
    obtain ⟨_, d0, d1, d2, d3⟩ := hSw.2
    go_simp
    try with_reducible rfl
  simp only [Act.put, List.setIfInBounds_toArray, List.set_cons_zero, List.set_cons_succ]
  refine wpAnyL_take (i := 4) (oi := { dst := some 73, op := Op.load 75 (Operand.tmp 10), type := 75, pos := "l15_talk.go:106", after := #[], guard := none }) (v := ?_) rfl (by kernel_rfl) (by kernel_rfl) (by kernel_rfl) (by kernel_rfl) (fun _ _ _ h => h) (Or.inl ⟨by rfl, ?_⟩) SF ?_
  rotate_left
  · intro W hSw
    have k0 := hSw.1.c0
    have k1 := hSw.1.c1
    have k2 := hSw.1.c2
    have k3 := hSw.1.c3
    have k4 := hSw.1.c4
    have k5 := hSw.1.c5
    have k6 := hSw.1.c6
    have k7 := hSw.1.c7
    obtain ⟨_, d0, d1, d2, d3⟩ := hSw.2
    go_simp
    try with_reducible rfl
  simp only [Act.put, List.setIfInBounds_toArray, List.set_cons_zero, List.set_cons_succ]
  refine wpAnyL_one (i := 5) (by kernel_rfl) ?_
  refine wpOp_step (o := { dst := some 74, op := Op.call { callee := Callee.value (Operand.func 40), args := #[Operand.tmp 72, Operand.tmp 73], argTypes := #[53, 75] }, type := 53, pos := "l15_talk.go:106", after := #[{ on := 3, ground := Ground.data }, { on := 4, ground := Ground.data }], guard := none }) rfl fun K' hK => step_enterW (by rfl) 40 #[peA (.slice A0 z.x.q.length r0) z.x.s z.x.e (.slice B0 z.x.i.length r1), frV f1] (by go_simp) ((unhide KX _ _ ((unhide HP).below hS0) (unhide KP)).mono ?_)
  rintro e wi0 ⟨r, rfl, pv, cq, fa, b⟩
  have s1 := bl_st b hS0
  have SG : _ ∧ _ := ⟨(unhide R8).below s1, (unhide FA0).below s1⟩
  obtain ⟨Y01, Y02, Y03, Y04, hre⟩ := pv.slices
  subst hre
  refine ⟨_, rfl, hK _ _ ⟨(fun _ => SG), ?_⟩⟩
  simp only [Act.put, List.setIfInBounds_toArray, List.set_cons_zero, List.set_cons_succ]
  have x0 := SG.1.c0
  have y0 := SG.1.fz 0
  have x1 := SG.1.c1
  have y1 := SG.1.fz 1
  have x2 := SG.1.c2
  have y2 := SG.1.fz 2
  have x3 := SG.1.c3
  have y3 := SG.1.fz 3
  refine wpAnyL_one (i := 6) (by kernel_rfl) ?_
  refine wpOp_step (o := { dst := some 75, op := Op.indexAddr 41 (Operand.tmp 69) (Operand.const (Value.int IntKind.i64 0)), type := 0, pos := "l15_talk.go:106", after := #[{ on := 0, ground := Ground.data }, { on := 0, ground := Ground.phase }, { on := 1, ground := Ground.phase }, { on := 2, ground := Ground.phase }, { on := 3, ground := Ground.phase }, { on := 4, ground := Ground.phase }, { on := 5, ground := Ground.phase }], guard := none }) rfl fun K' hK => step_valueW (by rfl) (.pointer (some ⟨g', 0, none⟩)) (wi0) (by go_simp) ?_
  refine hK _ _ ⟨(fun _ => SG), ?_⟩
  simp only [Act.put, List.setIfInBounds_toArray, List.set_cons_zero, List.set_cons_succ]
  refine wpAnyL_one (i := 7) (by kernel_rfl) ?_
  refine wpOp_step (o := { dst := none, op := Op.store 53 (Operand.tmp 75) (Operand.tmp 74), type := 0, pos := "l15_talk.go:106", after := #[{ on := 6, ground := Ground.data }, { on := 5, ground := Ground.data }, { on := 5, ground := Ground.chain }, { on := 0, ground := Ground.phase }, { on := 1, ground := Ground.phase }, { on := 2, ground := Ground.phase }, { on := 3, ground := Ground.phase }, { on := 4, ground := Ground.phase }, { on := 5, ground := Ground.phase }], guard := none }) rfl fun K' hK => step_skipW (by rfl) ((((wi0.setCell ⟨g', 0, none⟩ (.slice Y01 (inF z.x f1).q.length Y02)).setCell ⟨g', 1, none⟩ (.int .i64 (inF z.x f1).s)).setCell ⟨g', 2, none⟩ (.int .i64 (inF z.x f1).e)).setCell ⟨g', 3, none⟩ (.slice Y03 (inF z.x f1).i.length Y04)) (by go_simp) ?_
  refine hK _ _ ⟨(fun h => by cases h), ?_⟩
  try simp only [Act.put]
  refine wpAnyL_done (by kernel_rfl) ?_ _
  have LN : Lone g' wi0 ((((wi0.setCell ⟨g', 0, none⟩ (.slice Y01 (inF z.x f1).q.length Y02)).setCell ⟨g', 1, none⟩ (.int .i64 (inF z.x f1).s)).setCell ⟨g', 2, none⟩ (.int .i64 (inF z.x f1).e)).setCell ⟨g', 3, none⟩ (.slice Y03 (inF z.x f1).i.length Y04)) := lone_put wi0 g' 0 1 2 3 _ _ _ _
  have lg := unhide LG
  have l6 := (unhide R8).lt
  have zw := unhide ZW
  have z2 := unhide Z2
  have z3 := unhide Z3
  have z4 := unhide Z4
  have szd : { w6 with drawn := w6.drawn + 1 }.heap.size = w6.heap.size := rfl
  have R9 := hide (SG.1.put0 (.slice Y01 (inF z.x f1).q.length Y02) (.int .i64 (inF z.x f1).s) (.int .i64 (inF z.x f1).e) (.slice Y03 (inF z.x f1).i.length Y04))
  have HB' := hide (LN.below (bl_st s1 (unhide HB)) (by omega) (bl_st s1 (unhide HB)).size)
  have HN' := hide ((LN.block _ (by have := s1.size; omega) (by omega)).trans ((s1.block _ (Array.getElem?_eq_some_iff.1 (unhide HN)).1).trans (unhide HN)))
  have OF : offP g' (peA (.slice Y01 (inF z.x f1).q.length Y02) (inF z.x f1).s (inF z.x f1).e (.slice Y03 (inF z.x f1).i.length Y04)) := offP_far fa (unhide OX g' (by omega)) (by omega)
  have PN0 := hide (peV_lone8 pv LN OF)
  have ON0 := hide OF
  have FRW0 : Hid (∀ b, b < w.heap.size → offP b (peA (.slice A0 z.x.q.length r0) z.x.s z.x.e (.slice B0 z.x.i.length r1)) → offP b (peA (.slice Y01 (inF z.x f1).q.length Y02) (inF z.x f1).s (inF z.x f1).e (.slice Y03 (inF z.x f1).i.length Y04))) := hide (fun b hb ho => offP_far fa ho (by omega))
  have CN0 := hide cq
  have HQ' := hide (peV_lone8 ((unhide HQ).below s1) LN (unhide OY g' (by omega)))
  clear x0 x1 x2 x3 y0 y1 y2 y3 LN s1 SG SF hS0 pv cq fa lg l6 zw z2 z3 z4 szd R8 b OF HB HN HQ
  have HB := HB'
  have HN := HN'
  have HQ := HQ'
  clear HB' HN' HQ'
  have R8 := R9
  clear R9
  generalize (((wi0.setCell ⟨g', 0, none⟩ (.slice Y01 (inF z.x f1).q.length Y02)).setCell ⟨g', 1, none⟩ (.int .i64 (inF z.x f1).s)).setCell ⟨g', 2, none⟩ (.int .i64 (inF z.x f1).e)).setCell ⟨g', 3, none⟩ (.slice Y03 (inF z.x f1).i.length Y04) = wb at *
  go_wp2
  go_ret2
  rw [unhide HF]
  refine ⟨_, rfl, ⟨g', c', _, _, _, _, rs, rfl, (unhide LG).2, unhide R8, unhide PN0, unhide CN0, unhide HQ, unhide KQ⟩, fun b hb ho => ?_, unhide HB⟩
  obtain ⟨t0, t3, t4, t7⟩ := unhide OT b ho
  obtain ⟨u0, u3⟩ := offP_parts (unhide FRW0 b hb ⟨_, _, _, _, rfl, t0, t3⟩)
  have u4 := t4
  have u7 := t7
  exact ⟨g', c', _, _, _, _, _, _, _, _, rs, rfl, unhide R8, u0, u3, u4, u7⟩
theorem step_round11 (v : Value) (z : Tw) (a : Ta) (w : World) (hv : twV w v z) (hx : peFew z.x) (hy : peFew z.y) (ht : a.t.size ≤ maxLen) (sx : 0 ≤ z.x.s ∧ z.x.s ≤ 1048576) (ex : 0 ≤ z.x.e ∧ z.x.e ≤ 1048576) (sy : 0 ≤ z.y.s ∧ z.y.s ≤ 1048576) (ey : 0 ≤ z.y.e ∧ z.y.e ≤ 1048576) (h2 : a.k = 2) (hla : a.la = true) (hlb : a.lb = true) :
    Calls Tryz.prog 22 #[v, taV a] w fun e w' => ∃ r, e = .returned (.tuple #[r, .int .i64 (stepF z a).2]) ∧ twV w' r (stepF z a).1 ∧ (∀ b, b < w.heap.size → offT b w v → offT b w' r) ∧ Below w.heap.size w w' := by
  obtain ⟨g, c, q0, i0, q1, i1, rest, rfl, hc, hr, hp, kp, hq, kq⟩ := hv
  obtain ⟨A0, r0, B0, r1, e0⟩ := hp.slices
  obtain ⟨A1, r2, B1, r3, e1⟩ := hq.slices
  have e00 : q0 = .slice A0 z.x.q.length r0 ∧ i0 = .slice B0 z.x.i.length r1 := peA_inj e0
  have e11 : q1 = .slice A1 z.y.q.length r2 ∧ i1 = .slice B1 z.y.i.length r3 := peA_inj e1
  obtain ⟨rfl, rfl⟩ := e00
  obtain ⟨rfl, rfl⟩ := e11
  clear e0 e1
  have B1w : Below w.heap.size w (w.alloc (.cells #[.int .i64 a.k, .int .i64 a.w, .string a.t, .bool a.la, .bool a.lb] 27)) := bl_al (Below.refl _ _)
  have HB := hide B1w
  have HR := hide (hr.below B1w)
  have HP := hide (hp.below B1w)
  have HQ := hide (hq.below B1w)
  have KP := hide kp
  have KQ := hide kq
  have HN := hide (heap_alloc_new w (.cells #[.int .i64 a.k, .int .i64 a.w, .string a.t, .bool a.la, .bool a.lb] 27))
  have HCC := hide hc
  have VV : Hid (twV (w.alloc (.cells #[.int .i64 a.k, .int .i64 a.w, .string a.t, .bool a.la, .bool a.lb] 27)) (.slice (some ⟨g, 0, none⟩) 2 c) z) := hide ⟨g, c, _, _, _, _, rest, rfl, hc, hr.below B1w, hp.below B1w, kp, hq.below B1w, kq⟩
  have OT := hide (fun b (ho : offT b w (.slice (some ⟨g, 0, none⟩) 2 c)) => ho.row hr)
  show Calls Tryz.prog 22 #[.slice (some ⟨g, 0, none⟩) 2 c, taA a.k a.w a.t a.la a.lb] w _
  have gl := hr.lt
  have HF := hide (show stepF z a = (⟨z.x, z.y⟩, 0) by unfold stepF; rw [if_neg (by omega), if_pos h2, hla, hlb]; rfl)
  have KO := hide (fun (p : Pe) u W (h : peV W u p) (hf : peFew p) => out61 u p W h hf)
  have KX := hide (fun u W (h : peV W u z.x) (hc : capQ u z.x) => in57 u z.x (outF z.y) W h hc hx sx ex)
  have KY := hide (fun u W (h : peV W u z.y) (hc : capQ u z.y) => in57 u z.y (outF z.x) W h hc hy sy ey)
  have FX := hide hx
  have FY := hide hy
  have ka : (w.alloc (.cells #[.int .i64 a.k, .int .i64 a.w, .string a.t, .bool a.la, .bool a.lb] 27)).cell? ⟨w.heap.size, 0, none⟩ = some (.int .i64 2) := by rw [← h2]; exact row_cell (unhide HN)
  have ZW : Hid (g < w.heap.size ∧ (w.alloc (.cells #[.int .i64 a.k, .int .i64 a.w, .string a.t, .bool a.la, .bool a.lb] 27)).heap.size = w.heap.size + 1) := hide ⟨gl, by simp⟩
  have K1 := hide (unhide KO z.x _ _ (unhide HP) (unhide FX))
  have K2 := hide (fun u W h => unhide KO z.y u W h (unhide FY))
  generalize hf0 : outF z.x = f0 at *
  generalize hf1 : outF z.y = f1 at *
  rw [h2, hla, hlb] at *
  have k0 := (unhide HR).c0
  have k1 := (unhide HR).c1
  have k2 := (unhide HR).c2
  have k3 := (unhide HR).c3
  have k4 := (unhide HR).c4
  have k5 := (unhide HR).c5
  have k6 := (unhide HR).c6
  have k7 := (unhide HR).c7
  have OX := hide (fun b (hb : w.heap.size ≤ b) => offP_old hp hb)
  have OY := hide (fun b (hb : w.heap.size ≤ b) => offP_old hq hb)
  clear hr hp hq kp kq B1w hx hy sx ex sy ey ht h2 ka gl hf0 hf1 VV KO FX FY hc
  go_enter Tryz.func22, Tryz.ntmps22
  go_wp2_with fail
  generalize hw1 : w.alloc (.cells #[.int .i64 2, .int .i64 a.w, .string a.t, .bool true, .bool true] 27) = w1 at *
  clear hw1 hla hlb
  refine (unhide K1).mono ?_
  rintro e1 w2 ⟨rfl, b2⟩
  have bA : Below w1.heap.size w1 (w2.alloc (.cells #[.int .i64 f0.s, .int .i64 f0.a, .bool f0.h, .string f0.b] 75)) := bl_al b2
  have HB := hide (bl_st bA (unhide HB))
  have HR := hide ((unhide HR).below bA)
  have HP := hide ((unhide HP).below bA)
  have HQ := hide ((unhide HQ).below bA)
  have HN := hide ((bA.block _ (Array.getElem?_eq_some_iff.1 (unhide HN)).1).trans (unhide HN))
  have FA1 := hide (fc_new w2 f0.s f0.a f0.h f0.b 75)
  have Z2 := hide b2.size
  clear b2 bA K1 k0 k1 k2 k3 k4 k5 k6 k7
  have k0 := (unhide HR).c0
  have k1 := (unhide HR).c1
  have k2 := (unhide HR).c2
  have k3 := (unhide HR).c3
  have k4 := (unhide HR).c4
  have k5 := (unhide HR).c5
  have k6 := (unhide HR).c6
  have k7 := (unhide HR).c7
  go_wp2_with fail
  generalize hw3 : w2.alloc (.cells #[.int .i64 f0.s, .int .i64 f0.a, .bool f0.h, .string f0.b] 75) = w3 at *
  have Z3 : Hid (w3.heap.size = w2.heap.size + 1) := hide (by rw [← hw3]; simp)
  clear hw3
  refine (unhide K2 _ w3 (unhide HQ)).mono ?_
  rintro e1 w4 ⟨rfl, b4⟩
  have bA : Below w3.heap.size w3 (w4.alloc (.cells #[.int .i64 f1.s, .int .i64 f1.a, .bool f1.h, .string f1.b] 75)) := bl_al b4
  have HB := hide (bl_st bA (unhide HB))
  have HR := hide ((unhide HR).below bA)
  have HP := hide ((unhide HP).below bA)
  have HQ := hide ((unhide HQ).below bA)
  have HN := hide ((bA.block _ (Array.getElem?_eq_some_iff.1 (unhide HN)).1).trans (unhide HN))
  have FA1 := hide ((unhide FA1).below bA)
  have FA0 := hide (fc_new w4 f1.s f1.a f1.h f1.b 75)
  have Z4 := hide b4.size
  clear b4 bA K2 k0 k1 k2 k3 k4 k5 k6 k7
  have E5 : Hid (w4.heap.size + 1 = (w4.alloc (.cells #[.int .i64 f1.s, .int .i64 f1.a, .bool f1.h, .string f1.b] 75)).heap.size) := hide (by simp)
  go_wp2_with (at_builtin; refine wpList_copy8 (w4.alloc (.cells #[.int .i64 f1.s, .int .i64 f1.a, .bool f1.h, .string f1.b] 75)) rfl _ _ rfl (w4.heap.size + 1) g c (unhide E5) (.slice A0 z.x.q.length r0) (.int .i64 z.x.s) (.int .i64 z.x.e) (.slice B0 z.x.i.length r1) (.slice A1 z.y.q.length r2) (.int .i64 z.y.s) (.int .i64 z.y.e) (.slice B1 z.y.i.length r3) rest rfl rfl (unhide HR) (by simp [Value.oneCell']) ?_
               intro g' c' w6 rs b6 row6 lg6 hc6
               have HB := hide (bl_st b6 (unhide HB))
               have HP := hide ((unhide HP).below b6)
               have HQ := hide ((unhide HQ).below b6)
               have HN := hide ((b6.block _ (Array.getElem?_eq_some_iff.1 (unhide HN)).1).trans (unhide HN))
               have FA1 := hide ((unhide FA1).below b6)
               have FA0 := hide ((unhide FA0).below b6)
               have R8 := hide row6
               have LG := hide (show w4.heap.size + 1 ≤ g' ∧ 2 ≤ c' from ⟨by have := unhide E5; omega, hc6⟩)
               have ka3 : w6.cell? ⟨w.heap.size, 3, none⟩ = some (.bool true) := row_cell (unhide HN)
               have ka4 : w6.cell? ⟨w.heap.size, 4, none⟩ = some (.bool true) := row_cell (unhide HN)
               clear b6 row6 lg6 hc6 HR E5)
  go_ret2
  rw [unhide HF]
  refine ⟨_, rfl, ⟨g', c', _, _, _, _, rs, rfl, (unhide LG).2, unhide R8, unhide HP, unhide KP, unhide HQ, unhide KQ⟩, fun b hb ho => ?_, unhide HB⟩
  obtain ⟨t0, t3, t4, t7⟩ := unhide OT b ho
  have u0 := t0
  have u3 := t3
  have u4 := t4
  have u7 := t7
  exact ⟨g', c', _, _, _, _, _, _, _, _, rs, rfl, unhide R8, u0, u3, u4, u7⟩
end Go.Proofs.YtbkcgkffafjbgaaGreatDoor
