/- One act of two, by the specification: hanging up. -/
import Derived.Test.YtbkcgkffafjbgaaGreatDoorGf
namespace Go.Proofs.YtbkcgkffafjbgaaGreatDoor
open Go.RowKit
set_option maxHeartbeats 4000000
set_option maxRecDepth 20000
set_option linter.unusedVariables false
theorem step_hang_no (v : Value) (z : Tw) (a : Ta) (w : World) (hv : twV w v z) (hx : peFew z.x) (hy : peFew z.y) (ht : a.t.size ≤ maxLen) (sx : 0 ≤ z.x.s ∧ z.x.s ≤ 1048576) (ex : 0 ≤ z.x.e ∧ z.x.e ≤ 1048576) (sy : 0 ≤ z.y.s ∧ z.y.s ≤ 1048576) (ey : 0 ≤ z.y.e ∧ z.y.e ≤ 1048576) (h1 : a.k = 3) (hw : okW a.w = false) :
    Calls Tryz.prog 22 #[v, taV a] w fun e w' => ∃ r, e = .returned (.tuple #[r, .int .i64 (stepF z a).2]) ∧ twV w' r (stepF z a).1 ∧ (∀ b, b < w.heap.size → offT b w v → offT b w' r) ∧ Below w.heap.size w w' := by
  obtain ⟨g, c, q0, i0, q1, i1, rest, rfl, hc, hr, hp, kp, hq, kq⟩ := hv
  obtain ⟨A0, r0, B0, r1, e0⟩ := hp.slices
  obtain ⟨A1, r2, B1, r3, e1⟩ := hq.slices
  have e00 : q0 = .slice A0 z.x.q.length r0 ∧ i0 = .slice B0 z.x.i.length r1 := peA_inj e0
  have e11 : q1 = .slice A1 z.y.q.length r2 ∧ i1 = .slice B1 z.y.i.length r3 := peA_inj e1
  obtain ⟨rfl, rfl⟩ := e00
  obtain ⟨rfl, rfl⟩ := e11
  clear e0 e1
  have B1w : Below w.heap.size w (w.alloc (.cells #[.int .i64 a.k, .int .i64 a.w, .string a.t, .bool a.la, .bool a.lb] 27)) := bl_al (Below.refl _ _)
  have HB := hide B1w
  have HR := hide (hr.below B1w)
  have HP := hide (hp.below B1w)
  have HQ := hide (hq.below B1w)
  have KP := hide kp
  have KQ := hide kq
  have HN := hide (heap_alloc_new w (.cells #[.int .i64 a.k, .int .i64 a.w, .string a.t, .bool a.la, .bool a.lb] 27))
  have HCC := hide hc
  have VV : Hid (twV (w.alloc (.cells #[.int .i64 a.k, .int .i64 a.w, .string a.t, .bool a.la, .bool a.lb] 27)) (.slice (some ⟨g, 0, none⟩) 2 c) z) := hide ⟨g, c, _, _, _, _, rest, rfl, hc, hr.below B1w, hp.below B1w, kp, hq.below B1w, kq⟩
  have OT := hide (fun b (ho : offT b w (.slice (some ⟨g, 0, none⟩) 2 c)) => ho.row hr)
  show Calls Tryz.prog 22 #[.slice (some ⟨g, 0, none⟩) 2 c, taA a.k a.w a.t a.la a.lb] w _
  have gl := hr.lt
  have HF := hide (show stepF z a = (z, 4) by unfold stepF; rw [if_neg (by omega), if_neg (by omega), if_pos h1]; rw [if_neg (by rw [hw]; decide)])
  have KI := hide (fun W => in56 a.w 0 1 W)
  rw [show (decide (0 ≤ a.w) && decide (a.w ≤ 1)) = false from hw] at KI
  rw [h1] at *
  clear hr hp hq kp kq HR HP HQ B1w hx hy sx ex sy ey ht hw h1
  go_enter Tryz.func22, Tryz.ntmps22
  go_wp2_with fail
  refine (unhide KI _).mono ?_
  rintro e1 w2 ⟨rfl, hw⟩
  have hw2 := hw.symm
  subst hw2
  go_wp2
  go_ret2
  rw [unhide HF]
  exact ⟨_, rfl, unhide VV, fun b _ ho => ho.below (unhide HB), unhide HB⟩
theorem step_hang0e (v : Value) (z : Tw) (a : Ta) (w : World) (hv : twV w v z) (hx : peFew z.x) (hy : peFew z.y) (ht : a.t.size ≤ maxLen) (sx : 0 ≤ z.x.s ∧ z.x.s ≤ 1048576) (ex : 0 ≤ z.x.e ∧ z.x.e ≤ 1048576) (sy : 0 ≤ z.y.s ∧ z.y.s ≤ 1048576) (ey : 0 ≤ z.y.e ∧ z.y.e ≤ 1048576) (h1 : a.k = 3) (hw : a.w = 0) (hq0 : z.x.q.length = 0) :
    Calls Tryz.prog 22 #[v, taV a] w fun e w' => ∃ r, e = .returned (.tuple #[r, .int .i64 (stepF z a).2]) ∧ twV w' r (stepF z a).1 ∧ (∀ b, b < w.heap.size → offT b w v → offT b w' r) ∧ Below w.heap.size w w' := by
  obtain ⟨g, c, q0, i0, q1, i1, rest, rfl, hc, hr, hp, kp, hq, kq⟩ := hv
  obtain ⟨A0, r0, B0, r1, e0⟩ := hp.slices
  obtain ⟨A1, r2, B1, r3, e1⟩ := hq.slices
  have e00 : q0 = .slice A0 z.x.q.length r0 ∧ i0 = .slice B0 z.x.i.length r1 := peA_inj e0
  have e11 : q1 = .slice A1 z.y.q.length r2 ∧ i1 = .slice B1 z.y.i.length r3 := peA_inj e1
  obtain ⟨rfl, rfl⟩ := e00
  obtain ⟨rfl, rfl⟩ := e11
  clear e0 e1
  have B1w : Below w.heap.size w (w.alloc (.cells #[.int .i64 a.k, .int .i64 a.w, .string a.t, .bool a.la, .bool a.lb] 27)) := bl_al (Below.refl _ _)
  have HB := hide B1w
  have HR := hide (hr.below B1w)
  have HP := hide (hp.below B1w)
  have HQ := hide (hq.below B1w)
  have KP := hide kp
  have KQ := hide kq
  have HN := hide (heap_alloc_new w (.cells #[.int .i64 a.k, .int .i64 a.w, .string a.t, .bool a.la, .bool a.lb] 27))
  have HCC := hide hc
  have VV : Hid (twV (w.alloc (.cells #[.int .i64 a.k, .int .i64 a.w, .string a.t, .bool a.la, .bool a.lb] 27)) (.slice (some ⟨g, 0, none⟩) 2 c) z) := hide ⟨g, c, _, _, _, _, rest, rfl, hc, hr.below B1w, hp.below B1w, kp, hq.below B1w, kq⟩
  have OT := hide (fun b (ho : offT b w (.slice (some ⟨g, 0, none⟩) 2 c)) => ho.row hr)
  show Calls Tryz.prog 22 #[.slice (some ⟨g, 0, none⟩) 2 c, taA a.k a.w a.t a.la a.lb] w _
  have gl := hr.lt
  have HF := hide (show stepF z a = (z, 5) by unfold stepF; rw [if_neg (by omega), if_neg (by omega), if_pos h1, hw, if_pos (by decide)]; exact if_pos hq0)
  have KI := hide (fun W => in56 0 0 1 W)
  rw [show (decide ((0 : Int) ≤ 0) && decide ((0 : Int) ≤ 1)) = true from by decide] at KI
  have OX := hide (fun b (hb : w.heap.size ≤ b) => offP_old hp hb)
  have OY := hide (fun b (hb : w.heap.size ≤ b) => offP_old hq hb)
  have ZW : Hid (g < w.heap.size ∧ (w.alloc (.cells #[.int .i64 a.k, .int .i64 a.w, .string a.t, .bool a.la, .bool a.lb] 27)).heap.size = w.heap.size + 1) := hide ⟨gl, by simp⟩
  have nq0 : (0 : Int) ≤ (z.x.q.length : Int) := by omega
  have nq1 : (z.x.q.length : Int) ≤ 1048576 := by have := hx.1; omega
  have nqz : ((z.x.q.length : Int) == 0) = true := by simp [hq0]
  rw [h1, hw] at *
  have k0 := (unhide HR).c0
  have k1 := (unhide HR).c1
  have k2 := (unhide HR).c2
  have k3 := (unhide HR).c3
  have k4 := (unhide HR).c4
  have k5 := (unhide HR).c5
  have k6 := (unhide HR).c6
  have k7 := (unhide HR).c7
  clear hr hp hq kp kq B1w hx hy sx ex sy ey ht hw h1 gl hc hq0
  go_enter Tryz.func22, Tryz.ntmps22
  go_wp2_with fail
  generalize hw1 : w.alloc (.cells #[.int .i64 3, .int .i64 0, .string a.t, .bool a.la, .bool a.lb] 27) = w1 at *
  clear hw1
  refine (unhide KI w1).mono ?_
  rintro e1 w1' ⟨rfl, hw⟩
  have hw2 := hw.symm
  subst hw2
  clear hw KI
  have ka1 : w1.cell? ⟨w.heap.size, 1, none⟩ = some (.int .i64 0) := row_cell (unhide HN)
  go_wp2_with (at_builtin; refine wpList_copy8 w1 rfl _ _ rfl w1.heap.size g c rfl (.slice A0 z.x.q.length r0) (.int .i64 z.x.s) (.int .i64 z.x.e) (.slice B0 z.x.i.length r1) (.slice A1 z.y.q.length r2) (.int .i64 z.y.s) (.int .i64 z.y.e) (.slice B1 z.y.i.length r3) rest rfl rfl (unhide HR) (by simp [Value.oneCell']) ?_
               intro g' c' w6 rs b6 row6 lg6 hc6
               have B6 := hide (bl_st b6 (unhide HB))
               have Z6 := hide (show w.heap.size + 1 ≤ g' by have := unhide ZW; omega)
               have b6b := hide b6
               have R6 := hide row6
               have HC6 := hide hc6
               have N6 := hide ((b6.block _ (Array.getElem?_eq_some_iff.1 (unhide HN)).1).trans (unhide HN))
               clear ka1
               have ka1 : w6.cell? ⟨w.heap.size, 1, none⟩ = some (.int .i64 0) := row_cell (unhide N6)
               clear k0 k1 k2 k3 k4 k5 k6 k7
               have k0 := row6.c0
               have k1 := row6.c1
               have k2 := row6.c2
               have k3 := row6.c3
               have k4 := row6.c4
               have k5 := row6.c5
               have k6 := row6.c6
               have k7 := row6.c7
               clear row6 b6 lg6 hc6)
  go_ret2
  rw [unhide HF]
  exact ⟨_, rfl, (unhide VV).below (unhide b6b), fun b _ ho => ho.below (unhide B6), unhide B6⟩
theorem step_hang0f (v : Value) (z : Tw) (a : Ta) (w : World) (hv : twV w v z) (hx : peFew z.x) (hy : peFew z.y) (ht : a.t.size ≤ maxLen) (sx : 0 ≤ z.x.s ∧ z.x.s ≤ 1048576) (ex : 0 ≤ z.x.e ∧ z.x.e ≤ 1048576) (sy : 0 ≤ z.y.s ∧ z.y.s ≤ 1048576) (ey : 0 ≤ z.y.e ∧ z.y.e ≤ 1048576) (h1 : a.k = 3) (hw : a.w = 0) (hq0 : ¬ z.x.q.length = 0) :
    Calls Tryz.prog 22 #[v, taV a] w fun e w' => ∃ r, e = .returned (.tuple #[r, .int .i64 (stepF z a).2]) ∧ twV w' r (stepF z a).1 ∧ (∀ b, b < w.heap.size → offT b w v → offT b w' r) ∧ Below w.heap.size w w' := by
  obtain ⟨g, c, q0, i0, q1, i1, rest, rfl, hc, hr, hp, kp, hq, kq⟩ := hv
  obtain ⟨A0, r0, B0, r1, e0⟩ := hp.slices
  obtain ⟨A1, r2, B1, r3, e1⟩ := hq.slices
  have e00 : q0 = .slice A0 z.x.q.length r0 ∧ i0 = .slice B0 z.x.i.length r1 := peA_inj e0
  have e11 : q1 = .slice A1 z.y.q.length r2 ∧ i1 = .slice B1 z.y.i.length r3 := peA_inj e1
  obtain ⟨rfl, rfl⟩ := e00
  obtain ⟨rfl, rfl⟩ := e11
  clear e0 e1
  have B1w : Below w.heap.size w (w.alloc (.cells #[.int .i64 a.k, .int .i64 a.w, .string a.t, .bool a.la, .bool a.lb] 27)) := bl_al (Below.refl _ _)
  have HB := hide B1w
  have HR := hide (hr.below B1w)
  have HP := hide (hp.below B1w)
  have HQ := hide (hq.below B1w)
  have KP := hide kp
  have KQ := hide kq
  have HN := hide (heap_alloc_new w (.cells #[.int .i64 a.k, .int .i64 a.w, .string a.t, .bool a.la, .bool a.lb] 27))
  have HCC := hide hc
  have VV : Hid (twV (w.alloc (.cells #[.int .i64 a.k, .int .i64 a.w, .string a.t, .bool a.la, .bool a.lb] 27)) (.slice (some ⟨g, 0, none⟩) 2 c) z) := hide ⟨g, c, _, _, _, _, rest, rfl, hc, hr.below B1w, hp.below B1w, kp, hq.below B1w, kq⟩
  have OT := hide (fun b (ho : offT b w (.slice (some ⟨g, 0, none⟩) 2 c)) => ho.row hr)
  show Calls Tryz.prog 22 #[.slice (some ⟨g, 0, none⟩) 2 c, taA a.k a.w a.t a.la a.lb] w _
  have gl := hr.lt
  have HF := hide (show stepF z a = (⟨⟨z.x.q.take 1, z.x.s, z.x.e, z.x.i⟩, z.y⟩, 0) by unfold stepF; rw [if_neg (by omega), if_neg (by omega), if_pos h1, hw, if_pos (by decide)]; exact if_neg hq0)
  have KI := hide (fun W => in56 0 0 1 W)
  rw [show (decide ((0 : Int) ≤ 0) && decide ((0 : Int) ≤ 1)) = true from by decide] at KI
  have OX := hide (fun b (hb : w.heap.size ≤ b) => offP_old hp hb)
  have OY := hide (fun b (hb : w.heap.size ≤ b) => offP_old hq hb)
  have ZW : Hid (g < w.heap.size ∧ (w.alloc (.cells #[.int .i64 a.k, .int .i64 a.w, .string a.t, .bool a.la, .bool a.lb] 27)).heap.size = w.heap.size + 1) := hide ⟨gl, by simp⟩
  have nq0 : (0 : Int) ≤ (z.x.q.length : Int) := by omega
  have nq1 : (z.x.q.length : Int) ≤ 1048576 := by have := hx.1; omega
  have nqz : ((z.x.q.length : Int) == 0) = false := by rw [beq_eq_false_iff_ne]; omega
  have nqp : (1 : Int) ≤ (z.x.q.length : Int) := by omega
  have KCAP : z.x.q.length ≤ r0 := by
    obtain ⟨A', c', i', e', h'⟩ := kp
    have := (peA_inj e').1
    have x : r0 = c' := (Value.slice.inj this).2.2
    rw [x]; exact h'
  have VQ : Hid (strsV (w.alloc (.cells #[.int .i64 a.k, .int .i64 a.w, .string a.t, .bool a.la, .bool a.lb] 27)) (.slice A0 z.x.q.length r0) z.x.q) := hide (by
    obtain ⟨q', i', e', h1', h2'⟩ := unhide HP
    rw [(peA_inj e').1]; exact h1')
  have VI : Hid (strsV (w.alloc (.cells #[.int .i64 a.k, .int .i64 a.w, .string a.t, .bool a.la, .bool a.lb] 27)) (.slice B0 z.x.i.length r1) z.x.i) := hide (by
    obtain ⟨q', i', e', h1', h2'⟩ := unhide HP
    rw [(peA_inj e').2]; exact h2')
  have OI := hide (fun b (hb : w.heap.size ≤ b) => show offB b (.slice B0 z.x.i.length r1) by
    obtain ⟨q', i', s', e2, e', o1, o2⟩ := offP_old hp hb
    rw [(peA_inj e').2]; exact o2)
  have hsl := slice_one (A := A0) (n := z.x.q.length) (cap := r0) (by omega) KCAP
  have HT1 := hide (take_strs (W := w.alloc (.cells #[.int .i64 a.k, .int .i64 a.w, .string a.t, .bool a.la, .bool a.lb] 27)) (by omega) (unhide VQ))
  have HL1 : Hid ((z.x.q.take 1).length = 1) := hide (by rw [List.length_take]; omega)
  rw [h1, hw] at *
  have k0 := (unhide HR).c0
  have k1 := (unhide HR).c1
  have k2 := (unhide HR).c2
  have k3 := (unhide HR).c3
  have k4 := (unhide HR).c4
  have k5 := (unhide HR).c5
  have k6 := (unhide HR).c6
  have k7 := (unhide HR).c7
  clear hr hp hq kp kq B1w hx hy sx ex sy ey ht hw h1 gl hc hq0 KCAP
  go_enter Tryz.func22, Tryz.ntmps22
  go_wp2_with fail
  generalize hw1 : w.alloc (.cells #[.int .i64 3, .int .i64 0, .string a.t, .bool a.la, .bool a.lb] 27) = w1 at *
  clear hw1
  refine (unhide KI w1).mono ?_
  rintro e1 w1' ⟨rfl, hw⟩
  have hw2 := hw.symm
  subst hw2
  clear hw KI
  have ka1 : w1.cell? ⟨w.heap.size, 1, none⟩ = some (.int .i64 0) := row_cell (unhide HN)
  go_wp2_with (at_builtin; refine wpList_copy8 w1 rfl _ _ rfl w1.heap.size g c rfl (.slice A0 z.x.q.length r0) (.int .i64 z.x.s) (.int .i64 z.x.e) (.slice B0 z.x.i.length r1) (.slice A1 z.y.q.length r2) (.int .i64 z.y.s) (.int .i64 z.y.e) (.slice B1 z.y.i.length r3) rest rfl rfl (unhide HR) (by simp [Value.oneCell']) ?_
               intro g' c' w6 rs b6 row6 lg6 hc6
               have B6 := hide (bl_st b6 (unhide HB))
               have Z6 := hide (show w.heap.size + 1 ≤ g' by have := unhide ZW; omega)
               have b6b := hide b6
               have R6 := hide row6
               have HC6 := hide hc6
               have N6 := hide ((b6.block _ (Array.getElem?_eq_some_iff.1 (unhide HN)).1).trans (unhide HN))
               clear ka1
               have ka1 : w6.cell? ⟨w.heap.size, 1, none⟩ = some (.int .i64 0) := row_cell (unhide N6)
               clear k0 k1 k2 k3 k4 k5 k6 k7
               have k0 := row6.c0
               have k1 := row6.c1
               have k2 := row6.c2
               have k3 := row6.c3
               have k4 := row6.c4
               have k5 := row6.c5
               have k6 := row6.c6
               have k7 := row6.c7
               clear row6 b6 lg6 hc6)
  refine wp_region_late (S := fun W' => row8 W' g' (.slice A0 z.x.q.length r0) (.int .i64 z.x.s) (.int .i64 z.x.e) (.slice B0 z.x.i.length r1) (.slice A1 z.y.q.length r2) (.int .i64 z.y.s) (.int .i64 z.y.e) (.slice B1 z.y.i.length r3) rs ∧ W'.heap[w.heap.size]? = some (.cells #[.int .i64 3, .int .i64 0, .string a.t, .bool a.la, .bool a.lb] 27 (0, 0))) (late := [14]) (by kernel_rfl) ?_
  have hS0 : Below w6.heap.size w6 { w6 with drawn := w6.drawn + 1 } := below_drewN (Below.refl _ _) 1
  have SF : _ ∧ _ := ⟨(unhide R6).below hS0, (hS0.block _ (Array.getElem?_eq_some_iff.1 (unhide N6)).1).trans (unhide N6)⟩
  clear k0 k1 k2 k3 k4 k5 k6 k7 ka1
  refine wpAnyL_take (i := 0) (oi := { dst := some 96, op := Op.move (Operand.tmp 12), type := 41, pos := "l15_talk.go:118", after := #[], guard := none }) (v := ?_) rfl (by kernel_rfl) (by kernel_rfl) (by kernel_rfl) (by kernel_rfl) (fun _ _ _ h => h) (Or.inl ⟨by rfl, ?_⟩) SF ?_
  rotate_left
  · intro W hSw
    have k0 := hSw.1.c0
    have k1 := hSw.1.c1
    have k2 := hSw.1.c2
    have k3 := hSw.1.c3
    have k4 := hSw.1.c4
    have k5 := hSw.1.c5
    have k6 := hSw.1.c6
    have k7 := hSw.1.c7
    have ka1 : W.cell? ⟨w.heap.size, 1, none⟩ = some (.int .i64 0) := row_cell hSw.2
    go_simp
    try with_reducible rfl
  simp only [Act.put, List.setIfInBounds_toArray, List.set_cons_zero, List.set_cons_succ]
  refine wpAnyL_take (i := 1) (oi := { dst := some 97, op := Op.fieldAddr 27 (Operand.tmp 3) 1, type := 0, pos := "l15_talk.go:118", after := #[], guard := none }) (v := ?_) rfl (by kernel_rfl) (by kernel_rfl) (by kernel_rfl) (by kernel_rfl) (fun _ _ _ h => h) (Or.inl ⟨by rfl, ?_⟩) SF ?_
  rotate_left
  · intro W hSw
    have k0 := hSw.1.c0
    have k1 := hSw.1.c1
    have k2 := hSw.1.c2
    have k3 := hSw.1.c3
    have k4 := hSw.1.c4
    have k5 := hSw.1.c5
    have k6 := hSw.1.c6
    have k7 := hSw.1.c7
    have ka1 : W.cell? ⟨w.heap.size, 1, none⟩ = some (.int .i64 0) := row_cell hSw.2
    go_simp
    try with_reducible rfl
  simp only [Act.put, List.setIfInBounds_toArray, List.set_cons_zero, List.set_cons_succ]
  refine wpAnyL_take (i := 2) (oi := { dst := some 98, op := Op.load 3 (Operand.tmp 97), type := 3, pos := "l15_talk.go:118", after := #[{ on := 1, ground := Ground.data }], guard := none }) (v := ?_) rfl (by kernel_rfl) (by kernel_rfl) (by kernel_rfl) (by kernel_rfl) (fun _ _ _ h => h) (Or.inl ⟨by rfl, ?_⟩) SF ?_
  rotate_left
  · intro W hSw
    have k0 := hSw.1.c0
    have k1 := hSw.1.c1
    have k2 := hSw.1.c2
    have k3 := hSw.1.c3
    have k4 := hSw.1.c4
    have k5 := hSw.1.c5
    have k6 := hSw.1.c6
    have k7 := hSw.1.c7
    have ka1 : W.cell? ⟨w.heap.size, 1, none⟩ = some (.int .i64 0) := row_cell hSw.2
    go_simp
    try with_reducible rfl
  simp only [Act.put, List.setIfInBounds_toArray, List.set_cons_zero, List.set_cons_succ]
  refine wpAnyL_take (i := 4) (oi := { dst := some 100, op := Op.move (Operand.tmp 12), type := 41, pos := "l15_talk.go:118", after := #[], guard := none }) (v := ?_) rfl (by kernel_rfl) (by kernel_rfl) (by kernel_rfl) (by kernel_rfl) (fun _ _ _ h => h) (Or.inl ⟨by rfl, ?_⟩) SF ?_
  rotate_left
  · intro W hSw
    have k0 := hSw.1.c0
    have k1 := hSw.1.c1
    have k2 := hSw.1.c2
    have k3 := hSw.1.c3
    have k4 := hSw.1.c4
    have k5 := hSw.1.c5
    have k6 := hSw.1.c6
    have k7 := hSw.1.c7
    have ka1 : W.cell? ⟨w.heap.size, 1, none⟩ = some (.int .i64 0) := row_cell hSw.2
    go_simp
    try with_reducible rfl
  simp only [Act.put, List.setIfInBounds_toArray, List.set_cons_zero, List.set_cons_succ]
  refine wpAnyL_take (i := 5) (oi := { dst := some 101, op := Op.fieldAddr 27 (Operand.tmp 3) 1, type := 0, pos := "l15_talk.go:118", after := #[], guard := none }) (v := ?_) rfl (by kernel_rfl) (by kernel_rfl) (by kernel_rfl) (by kernel_rfl) (fun _ _ _ h => h) (Or.inl ⟨by rfl, ?_⟩) SF ?_
  rotate_left
  · intro W hSw
    have k0 := hSw.1.c0
    have k1 := hSw.1.c1
    have k2 := hSw.1.c2
    have k3 := hSw.1.c3
    have k4 := hSw.1.c4
    have k5 := hSw.1.c5
    have k6 := hSw.1.c6
    have k7 := hSw.1.c7
    have ka1 : W.cell? ⟨w.heap.size, 1, none⟩ = some (.int .i64 0) := row_cell hSw.2
    go_simp
    try with_reducible rfl
  simp only [Act.put, List.setIfInBounds_toArray, List.set_cons_zero, List.set_cons_succ]
  refine wpAnyL_take (i := 6) (oi := { dst := some 102, op := Op.load 3 (Operand.tmp 101), type := 3, pos := "l15_talk.go:118", after := #[{ on := 5, ground := Ground.data }], guard := none }) (v := ?_) rfl (by kernel_rfl) (by kernel_rfl) (by kernel_rfl) (by kernel_rfl) (fun _ _ _ h => h) (Or.inl ⟨by rfl, ?_⟩) SF ?_
  rotate_left
  · intro W hSw
    have k0 := hSw.1.c0
    have k1 := hSw.1.c1
    have k2 := hSw.1.c2
    have k3 := hSw.1.c3
    have k4 := hSw.1.c4
    have k5 := hSw.1.c5
    have k6 := hSw.1.c6
    have k7 := hSw.1.c7
    have ka1 : W.cell? ⟨w.heap.size, 1, none⟩ = some (.int .i64 0) := row_cell hSw.2
    go_simp
    try with_reducible rfl
  simp only [Act.put, List.setIfInBounds_toArray, List.set_cons_zero, List.set_cons_succ]
  refine wpAnyL_take (i := 7) (oi := { dst := some 103, op := Op.indexAddr 41 (Operand.tmp 100) (Operand.tmp 102), type := 0, pos := "l15_talk.go:118", after := #[{ on := 4, ground := Ground.data }, { on := 6, ground := Ground.data }], guard := none }) (v := ?_) rfl (by kernel_rfl) (by kernel_rfl) (by kernel_rfl) (by kernel_rfl) (fun _ _ _ h => h) (Or.inl ⟨by rfl, ?_⟩) SF ?_
  rotate_left
  · intro W hSw
    have k0 := hSw.1.c0
    have k1 := hSw.1.c1
    have k2 := hSw.1.c2
    have k3 := hSw.1.c3
    have k4 := hSw.1.c4
    have k5 := hSw.1.c5
    have k6 := hSw.1.c6
    have k7 := hSw.1.c7
    have ka1 : W.cell? ⟨w.heap.size, 1, none⟩ = some (.int .i64 0) := row_cell hSw.2
    go_simp
    try with_reducible rfl
  simp only [Act.put, List.setIfInBounds_toArray, List.set_cons_zero, List.set_cons_succ]
  refine wpAnyL_take (i := 8) (oi := { dst := some 104, op := Op.fieldAddr 53 (Operand.tmp 103) 0, type := 0, pos := "l15_talk.go:118", after := #[{ on := 7, ground := Ground.data }], guard := none }) (v := ?_) rfl (by kernel_rfl) (by kernel_rfl) (by kernel_rfl) (by kernel_rfl) (fun _ _ _ h => h) (Or.inl ⟨by rfl, ?_⟩) SF ?_
  rotate_left
  · intro W hSw
    have k0 := hSw.1.c0
    have k1 := hSw.1.c1
    have k2 := hSw.1.c2
    have k3 := hSw.1.c3
    have k4 := hSw.1.c4
    have k5 := hSw.1.c5
    have k6 := hSw.1.c6
    have k7 := hSw.1.c7
    have ka1 : W.cell? ⟨w.heap.size, 1, none⟩ = some (.int .i64 0) := row_cell hSw.2
    go_simp
    try with_reducible rfl
  simp only [Act.put, List.setIfInBounds_toArray, List.set_cons_zero, List.set_cons_succ]
  refine wpAnyL_take (i := 9) (oi := { dst := some 105, op := Op.load 23 (Operand.tmp 104), type := 23, pos := "l15_talk.go:118", after := #[{ on := 8, ground := Ground.data }], guard := none }) (v := ?_) rfl (by kernel_rfl) (by kernel_rfl) (by kernel_rfl) (by kernel_rfl) (fun _ _ _ h => h) (Or.inl ⟨by rfl, ?_⟩) SF ?_
  rotate_left
  · intro W hSw
    have k0 := hSw.1.c0
    have k1 := hSw.1.c1
    have k2 := hSw.1.c2
    have k3 := hSw.1.c3
    have k4 := hSw.1.c4
    have k5 := hSw.1.c5
    have k6 := hSw.1.c6
    have k7 := hSw.1.c7
    have ka1 : W.cell? ⟨w.heap.size, 1, none⟩ = some (.int .i64 0) := row_cell hSw.2
    go_simp
    try with_reducible rfl
  simp only [Act.put, List.setIfInBounds_toArray, List.set_cons_zero, List.set_cons_succ]
  refine wpAnyL_take (i := 10) (oi := { dst := some 106, op := Op.slice 23 (Operand.tmp 105) none (some (Operand.const (Value.int IntKind.i64 1))) none, type := 23, pos := "l15_talk.go:118", after := #[{ on := 9, ground := Ground.data }], guard := none }) (v := ?_) rfl (by kernel_rfl) (by kernel_rfl) (by kernel_rfl) (by kernel_rfl) (fun _ _ _ h => h) (Or.inl ⟨by rfl, ?_⟩) SF ?_
  rotate_left
  · intro W hSw
    have k0 := hSw.1.c0
    have k1 := hSw.1.c1
    have k2 := hSw.1.c2
    have k3 := hSw.1.c3
    have k4 := hSw.1.c4
    have k5 := hSw.1.c5
    have k6 := hSw.1.c6
    have k7 := hSw.1.c7
    have ka1 : W.cell? ⟨w.heap.size, 1, none⟩ = some (.int .i64 0) := row_cell hSw.2
    go_simp
    try with_reducible rfl
  simp only [Act.put, List.setIfInBounds_toArray, List.set_cons_zero, List.set_cons_succ]
  refine wpAnyL_one (i := 3) (by kernel_rfl) ?_
  refine wpOp_step (o := { dst := some 99, op := Op.buildSlice 23 0 #[], type := 23, pos := "l15_talk.go:118", after := #[], guard := none }) rfl fun K' hK => step_valueW (by rfl) (.slice (some ⟨w6.heap.size, 0, none⟩) 0 0) ({ w6 with drawn := w6.drawn + 1 }.alloc (.cells #[] 9)) (by go_simp) ?_
  have bA : Below w6.heap.size w6 ({ w6 with drawn := w6.drawn + 1 }.alloc (.cells #[] 9)) := bl_al hS0
  have SFA := (show _ ∧ _ from ⟨(unhide R6).below bA, (bA.block _ (Array.getElem?_eq_some_iff.1 (unhide N6)).1).trans (unhide N6)⟩)
  refine hK _ _ ⟨(fun _ => SFA), ?_⟩
  simp only [Act.put, List.setIfInBounds_toArray, List.set_cons_zero, List.set_cons_succ]
  obtain ⟨g1, c1, w8, hrun, cp⟩ := run_copy { w6 with drawn := w6.drawn + 1 } 23 w6.heap.size rfl (.slice A0 1 r0) (z.x.q.take 1) ((unhide HT1).below ((unhide b6b).trans (hS0.mono (unhide b6b).size))) (by rw [unhide HL1]; omega)
  have s8 := bl_st cp.be hS0
  have SG : _ ∧ _ := ⟨(unhide R6).below s8, (s8.block _ (Array.getElem?_eq_some_iff.1 (unhide N6)).1).trans (unhide N6)⟩
  refine wpAnyL_one (i := 11) (by kernel_rfl) ?_
  refine wpOp_step (o := { dst := some 107, op := Op.call { callee := Callee.builtin Builtin.append, args := #[Operand.tmp 99, Operand.tmp 106], argTypes := #[23, 23] }, type := 23, pos := "l15_talk.go:118", after := #[{ on := 3, ground := Ground.data }, { on := 10, ground := Ground.data }], guard := none }) rfl fun K' hK => step_appendW (by rfl) _ _ rfl _ _ _ _ rfl rfl hrun ?_
  refine hK _ _ ⟨(fun _ => SG), ?_⟩
  simp only [Act.put, List.setIfInBounds_toArray, List.set_cons_zero, List.set_cons_succ]
  have x0 := SG.1.c0
  have y0 := SG.1.fz 0
  refine wpAnyL_one (i := 12) (by kernel_rfl) ?_
  refine wpOp_step (o := { dst := some 108, op := Op.indexAddr 41 (Operand.tmp 96) (Operand.tmp 98), type := 0, pos := "l15_talk.go:118", after := #[{ on := 0, ground := Ground.data }, { on := 2, ground := Ground.data }, { on := 0, ground := Ground.phase }, { on := 1, ground := Ground.phase }, { on := 2, ground := Ground.phase }, { on := 3, ground := Ground.phase }, { on := 4, ground := Ground.phase }, { on := 5, ground := Ground.phase }, { on := 6, ground := Ground.phase }, { on := 7, ground := Ground.phase }, { on := 8, ground := Ground.phase }, { on := 9, ground := Ground.phase }, { on := 10, ground := Ground.phase }, { on := 11, ground := Ground.phase }], guard := none }) rfl fun K' hK => step_valueW (by rfl) (.pointer (some ⟨g', 0, none⟩)) (w8) (by go_simp) ?_
  refine hK _ _ ⟨(fun _ => SG), ?_⟩
  simp only [Act.put, List.setIfInBounds_toArray, List.set_cons_zero, List.set_cons_succ]
  refine wpAnyL_one (i := 13) (by kernel_rfl) ?_
  refine wpOp_step (o := { dst := some 109, op := Op.fieldAddr 53 (Operand.tmp 108) 0, type := 0, pos := "l15_talk.go:118", after := #[{ on := 12, ground := Ground.data }, { on := 0, ground := Ground.phase }, { on := 1, ground := Ground.phase }, { on := 2, ground := Ground.phase }, { on := 3, ground := Ground.phase }, { on := 4, ground := Ground.phase }, { on := 5, ground := Ground.phase }, { on := 6, ground := Ground.phase }, { on := 7, ground := Ground.phase }, { on := 8, ground := Ground.phase }, { on := 9, ground := Ground.phase }, { on := 10, ground := Ground.phase }, { on := 11, ground := Ground.phase }], guard := none }) rfl fun K' hK => step_valueW (by rfl) (.pointer (some ⟨g', 0, none⟩)) (w8) (by go_simp) ?_
  refine hK _ _ ⟨(fun _ => SG), ?_⟩
  simp only [Act.put, List.setIfInBounds_toArray, List.set_cons_zero, List.set_cons_succ]
  refine wpAnyL_one (i := 14) (by kernel_rfl) ?_
  refine wpOp_step (o := { dst := none, op := Op.store 23 (Operand.tmp 109) (Operand.tmp 107), type := 0, pos := "l15_talk.go:118", after := #[{ on := 13, ground := Ground.data }, { on := 11, ground := Ground.data }, { on := 11, ground := Ground.chain }, { on := 0, ground := Ground.phase }, { on := 1, ground := Ground.phase }, { on := 2, ground := Ground.phase }, { on := 3, ground := Ground.phase }, { on := 4, ground := Ground.phase }, { on := 5, ground := Ground.phase }, { on := 6, ground := Ground.phase }, { on := 7, ground := Ground.phase }, { on := 8, ground := Ground.phase }, { on := 9, ground := Ground.phase }, { on := 10, ground := Ground.phase }, { on := 11, ground := Ground.phase }], guard := none }) rfl fun K' hK => step_skipW (by rfl) (w8.setCell ⟨g', 0, none⟩ (.slice (some ⟨g1, 0, none⟩) (z.x.q.take 1).length c1)) (by go_simp) ?_
  refine hK _ _ ⟨(fun h => by cases h), ?_⟩
  try simp only [Act.put]
  refine wpAnyL_done (by kernel_rfl) ?_ _
  have LN : Lone g' w8 (w8.setCell ⟨g', 0, none⟩ (.slice (some ⟨g1, 0, none⟩) (z.x.q.take 1).length c1)) := lone_setCell g' 0 w8 (.slice (some ⟨g1, 0, none⟩) (z.x.q.take 1).length c1)
  have z6 := unhide Z6
  have l6 := (unhide R6).lt
  have zw := unhide ZW
  have lo8 := cp.lo
  have szD : ({ w6 with drawn := w6.drawn + 1 } : World).heap.size = w6.heap.size := rfl
  have BF := hide (LN.below (bl_st s8 (unhide B6)) (by omega) (bl_st s8 (unhide B6)).size)
  have RF := hide (SG.1.set0 (.slice (some ⟨g1, 0, none⟩) (z.x.q.take 1).length c1))
  have b18 := bl_st s8 (unhide b6b)
  have VQ9 := hide (strs_lone8 cp.own.strs LN (fun A n c e hn hk => by have : g1 = g' := Option.some.inj hk; omega))
  have VI9 := hide (strs_lone8 ((unhide VI).below b18) LN (unhide OI g' (by omega)))
  have VO9 := hide (peV_lone8 ((unhide HQ).below b18) LN (unhide OY g' (by omega)))
  have LO1 := hide (show w.heap.size ≤ g1 by omega)
  have C9 : Hid ((z.x.q.take 1).length ≤ c1) := hide (by obtain ⟨A', c', e', h'⟩ := cp.own.cap; have x : c1 = c' := (Value.slice.inj e').2.2; rw [x]; exact h')
  clear LN SG SF s8 cp hrun x0 y0 hS0 b18 l6 zw lo8 szD z6
  generalize w8.setCell ⟨g', 0, none⟩ (.slice (some ⟨g1, 0, none⟩) (z.x.q.take 1).length c1) = w9 at *
  go_wp2
  go_ret2
  rw [unhide HF]
  refine ⟨_, rfl, ⟨g', c', _, _, _, _, rs, rfl, unhide HC6, unhide RF, ⟨_, _, rfl, unhide VQ9, unhide VI9⟩, ⟨_, _, _, rfl, unhide C9⟩, unhide VO9, unhide KQ⟩, fun b hb ho => ?_, unhide BF⟩
  obtain ⟨t0, t3, t4, t7⟩ := unhide OT b ho
  have un : offB b (.slice (some ⟨g1, 0, none⟩) (z.x.q.take 1).length c1) := fun A n c e hn hk => by have : g1 = b := Option.some.inj hk; have := unhide LO1; omega
  exact ⟨g', c', _, _, _, _, _, _, _, _, rs, rfl, unhide RF, un, t3, t4, t7⟩
theorem step_hang1e (v : Value) (z : Tw) (a : Ta) (w : World) (hv : twV w v z) (hx : peFew z.x) (hy : peFew z.y) (ht : a.t.size ≤ maxLen) (sx : 0 ≤ z.x.s ∧ z.x.s ≤ 1048576) (ex : 0 ≤ z.x.e ∧ z.x.e ≤ 1048576) (sy : 0 ≤ z.y.s ∧ z.y.s ≤ 1048576) (ey : 0 ≤ z.y.e ∧ z.y.e ≤ 1048576) (h1 : a.k = 3) (hw : a.w = 1) (hq0 : z.y.q.length = 0) :
    Calls Tryz.prog 22 #[v, taV a] w fun e w' => ∃ r, e = .returned (.tuple #[r, .int .i64 (stepF z a).2]) ∧ twV w' r (stepF z a).1 ∧ (∀ b, b < w.heap.size → offT b w v → offT b w' r) ∧ Below w.heap.size w w' := by
  obtain ⟨g, c, q0, i0, q1, i1, rest, rfl, hc, hr, hp, kp, hq, kq⟩ := hv
  obtain ⟨A0, r0, B0, r1, e0⟩ := hp.slices
  obtain ⟨A1, r2, B1, r3, e1⟩ := hq.slices
  have e00 : q0 = .slice A0 z.x.q.length r0 ∧ i0 = .slice B0 z.x.i.length r1 := peA_inj e0
  have e11 : q1 = .slice A1 z.y.q.length r2 ∧ i1 = .slice B1 z.y.i.length r3 := peA_inj e1
  obtain ⟨rfl, rfl⟩ := e00
  obtain ⟨rfl, rfl⟩ := e11
  clear e0 e1
  have B1w : Below w.heap.size w (w.alloc (.cells #[.int .i64 a.k, .int .i64 a.w, .string a.t, .bool a.la, .bool a.lb] 27)) := bl_al (Below.refl _ _)
  have HB := hide B1w
  have HR := hide (hr.below B1w)
  have HP := hide (hp.below B1w)
  have HQ := hide (hq.below B1w)
  have KP := hide kp
  have KQ := hide kq
  have HN := hide (heap_alloc_new w (.cells #[.int .i64 a.k, .int .i64 a.w, .string a.t, .bool a.la, .bool a.lb] 27))
  have HCC := hide hc
  have VV : Hid (twV (w.alloc (.cells #[.int .i64 a.k, .int .i64 a.w, .string a.t, .bool a.la, .bool a.lb] 27)) (.slice (some ⟨g, 0, none⟩) 2 c) z) := hide ⟨g, c, _, _, _, _, rest, rfl, hc, hr.below B1w, hp.below B1w, kp, hq.below B1w, kq⟩
  have OT := hide (fun b (ho : offT b w (.slice (some ⟨g, 0, none⟩) 2 c)) => ho.row hr)
  show Calls Tryz.prog 22 #[.slice (some ⟨g, 0, none⟩) 2 c, taA a.k a.w a.t a.la a.lb] w _
  have gl := hr.lt
  have HF := hide (show stepF z a = (z, 5) by unfold stepF; rw [if_neg (by omega), if_neg (by omega), if_pos h1, hw, if_pos (by decide)]; exact if_pos hq0)
  have KI := hide (fun W => in56 1 0 1 W)
  rw [show (decide ((0 : Int) ≤ 1) && decide ((1 : Int) ≤ 1)) = true from by decide] at KI
  have OX := hide (fun b (hb : w.heap.size ≤ b) => offP_old hp hb)
  have OY := hide (fun b (hb : w.heap.size ≤ b) => offP_old hq hb)
  have ZW : Hid (g < w.heap.size ∧ (w.alloc (.cells #[.int .i64 a.k, .int .i64 a.w, .string a.t, .bool a.la, .bool a.lb] 27)).heap.size = w.heap.size + 1) := hide ⟨gl, by simp⟩
  have nq0 : (0 : Int) ≤ (z.y.q.length : Int) := by omega
  have nq1 : (z.y.q.length : Int) ≤ 1048576 := by have := hy.1; omega
  have nqz : ((z.y.q.length : Int) == 0) = true := by simp [hq0]
  rw [h1, hw] at *
  have k0 := (unhide HR).c0
  have k1 := (unhide HR).c1
  have k2 := (unhide HR).c2
  have k3 := (unhide HR).c3
  have k4 := (unhide HR).c4
  have k5 := (unhide HR).c5
  have k6 := (unhide HR).c6
  have k7 := (unhide HR).c7
  clear hr hp hq kp kq B1w hx hy sx ex sy ey ht hw h1 gl hc hq0
  go_enter Tryz.func22, Tryz.ntmps22
  go_wp2_with fail
  generalize hw1 : w.alloc (.cells #[.int .i64 3, .int .i64 1, .string a.t, .bool a.la, .bool a.lb] 27) = w1 at *
  clear hw1
  refine (unhide KI w1).mono ?_
  rintro e1 w1' ⟨rfl, hw⟩
  have hw2 := hw.symm
  subst hw2
  clear hw KI
  have ka1 : w1.cell? ⟨w.heap.size, 1, none⟩ = some (.int .i64 1) := row_cell (unhide HN)
  go_wp2_with (at_builtin; refine wpList_copy8 w1 rfl _ _ rfl w1.heap.size g c rfl (.slice A0 z.x.q.length r0) (.int .i64 z.x.s) (.int .i64 z.x.e) (.slice B0 z.x.i.length r1) (.slice A1 z.y.q.length r2) (.int .i64 z.y.s) (.int .i64 z.y.e) (.slice B1 z.y.i.length r3) rest rfl rfl (unhide HR) (by simp [Value.oneCell']) ?_
               intro g' c' w6 rs b6 row6 lg6 hc6
               have B6 := hide (bl_st b6 (unhide HB))
               have Z6 := hide (show w.heap.size + 1 ≤ g' by have := unhide ZW; omega)
               have b6b := hide b6
               have R6 := hide row6
               have HC6 := hide hc6
               have N6 := hide ((b6.block _ (Array.getElem?_eq_some_iff.1 (unhide HN)).1).trans (unhide HN))
               clear ka1
               have ka1 : w6.cell? ⟨w.heap.size, 1, none⟩ = some (.int .i64 1) := row_cell (unhide N6)
               clear k0 k1 k2 k3 k4 k5 k6 k7
               have k0 := row6.c0
               have k1 := row6.c1
               have k2 := row6.c2
               have k3 := row6.c3
               have k4 := row6.c4
               have k5 := row6.c5
               have k6 := row6.c6
               have k7 := row6.c7
               clear row6 b6 lg6 hc6)
  go_ret2
  rw [unhide HF]
  exact ⟨_, rfl, (unhide VV).below (unhide b6b), fun b _ ho => ho.below (unhide B6), unhide B6⟩
theorem step_hang1f (v : Value) (z : Tw) (a : Ta) (w : World) (hv : twV w v z) (hx : peFew z.x) (hy : peFew z.y) (ht : a.t.size ≤ maxLen) (sx : 0 ≤ z.x.s ∧ z.x.s ≤ 1048576) (ex : 0 ≤ z.x.e ∧ z.x.e ≤ 1048576) (sy : 0 ≤ z.y.s ∧ z.y.s ≤ 1048576) (ey : 0 ≤ z.y.e ∧ z.y.e ≤ 1048576) (h1 : a.k = 3) (hw : a.w = 1) (hq0 : ¬ z.y.q.length = 0) :
    Calls Tryz.prog 22 #[v, taV a] w fun e w' => ∃ r, e = .returned (.tuple #[r, .int .i64 (stepF z a).2]) ∧ twV w' r (stepF z a).1 ∧ (∀ b, b < w.heap.size → offT b w v → offT b w' r) ∧ Below w.heap.size w w' := by
  obtain ⟨g, c, q0, i0, q1, i1, rest, rfl, hc, hr, hp, kp, hq, kq⟩ := hv
  obtain ⟨A0, r0, B0, r1, e0⟩ := hp.slices
  obtain ⟨A1, r2, B1, r3, e1⟩ := hq.slices
  have e00 : q0 = .slice A0 z.x.q.length r0 ∧ i0 = .slice B0 z.x.i.length r1 := peA_inj e0
  have e11 : q1 = .slice A1 z.y.q.length r2 ∧ i1 = .slice B1 z.y.i.length r3 := peA_inj e1
  obtain ⟨rfl, rfl⟩ := e00
  obtain ⟨rfl, rfl⟩ := e11
  clear e0 e1
  have B1w : Below w.heap.size w (w.alloc (.cells #[.int .i64 a.k, .int .i64 a.w, .string a.t, .bool a.la, .bool a.lb] 27)) := bl_al (Below.refl _ _)
  have HB := hide B1w
  have HR := hide (hr.below B1w)
  have HP := hide (hp.below B1w)
  have HQ := hide (hq.below B1w)
  have KP := hide kp
  have KQ := hide kq
  have HN := hide (heap_alloc_new w (.cells #[.int .i64 a.k, .int .i64 a.w, .string a.t, .bool a.la, .bool a.lb] 27))
  have HCC := hide hc
  have VV : Hid (twV (w.alloc (.cells #[.int .i64 a.k, .int .i64 a.w, .string a.t, .bool a.la, .bool a.lb] 27)) (.slice (some ⟨g, 0, none⟩) 2 c) z) := hide ⟨g, c, _, _, _, _, rest, rfl, hc, hr.below B1w, hp.below B1w, kp, hq.below B1w, kq⟩
  have OT := hide (fun b (ho : offT b w (.slice (some ⟨g, 0, none⟩) 2 c)) => ho.row hr)
  show Calls Tryz.prog 22 #[.slice (some ⟨g, 0, none⟩) 2 c, taA a.k a.w a.t a.la a.lb] w _
  have gl := hr.lt
  have HF := hide (show stepF z a = (⟨z.x, ⟨z.y.q.take 1, z.y.s, z.y.e, z.y.i⟩⟩, 0) by unfold stepF; rw [if_neg (by omega), if_neg (by omega), if_pos h1, hw, if_pos (by decide)]; exact if_neg hq0)
  have KI := hide (fun W => in56 1 0 1 W)
  rw [show (decide ((0 : Int) ≤ 1) && decide ((1 : Int) ≤ 1)) = true from by decide] at KI
  have OX := hide (fun b (hb : w.heap.size ≤ b) => offP_old hp hb)
  have OY := hide (fun b (hb : w.heap.size ≤ b) => offP_old hq hb)
  have ZW : Hid (g < w.heap.size ∧ (w.alloc (.cells #[.int .i64 a.k, .int .i64 a.w, .string a.t, .bool a.la, .bool a.lb] 27)).heap.size = w.heap.size + 1) := hide ⟨gl, by simp⟩
  have nq0 : (0 : Int) ≤ (z.y.q.length : Int) := by omega
  have nq1 : (z.y.q.length : Int) ≤ 1048576 := by have := hy.1; omega
  have nqz : ((z.y.q.length : Int) == 0) = false := by rw [beq_eq_false_iff_ne]; omega
  have nqp : (1 : Int) ≤ (z.y.q.length : Int) := by omega
  have KCAP : z.y.q.length ≤ r2 := by
    obtain ⟨A', c', i', e', h'⟩ := kq
    have := (peA_inj e').1
    have x : r2 = c' := (Value.slice.inj this).2.2
    rw [x]; exact h'
  have VQ : Hid (strsV (w.alloc (.cells #[.int .i64 a.k, .int .i64 a.w, .string a.t, .bool a.la, .bool a.lb] 27)) (.slice A1 z.y.q.length r2) z.y.q) := hide (by
    obtain ⟨q', i', e', h1', h2'⟩ := unhide HQ
    rw [(peA_inj e').1]; exact h1')
  have VI : Hid (strsV (w.alloc (.cells #[.int .i64 a.k, .int .i64 a.w, .string a.t, .bool a.la, .bool a.lb] 27)) (.slice B1 z.y.i.length r3) z.y.i) := hide (by
    obtain ⟨q', i', e', h1', h2'⟩ := unhide HQ
    rw [(peA_inj e').2]; exact h2')
  have OI := hide (fun b (hb : w.heap.size ≤ b) => show offB b (.slice B1 z.y.i.length r3) by
    obtain ⟨q', i', s', e2, e', o1, o2⟩ := offP_old hq hb
    rw [(peA_inj e').2]; exact o2)
  have hsl := slice_one (A := A1) (n := z.y.q.length) (cap := r2) (by omega) KCAP
  have HT1 := hide (take_strs (W := w.alloc (.cells #[.int .i64 a.k, .int .i64 a.w, .string a.t, .bool a.la, .bool a.lb] 27)) (by omega) (unhide VQ))
  have HL1 : Hid ((z.y.q.take 1).length = 1) := hide (by rw [List.length_take]; omega)
  rw [h1, hw] at *
  have k0 := (unhide HR).c0
  have k1 := (unhide HR).c1
  have k2 := (unhide HR).c2
  have k3 := (unhide HR).c3
  have k4 := (unhide HR).c4
  have k5 := (unhide HR).c5
  have k6 := (unhide HR).c6
  have k7 := (unhide HR).c7
  clear hr hp hq kp kq B1w hx hy sx ex sy ey ht hw h1 gl hc hq0 KCAP
  go_enter Tryz.func22, Tryz.ntmps22
  go_wp2_with fail
  generalize hw1 : w.alloc (.cells #[.int .i64 3, .int .i64 1, .string a.t, .bool a.la, .bool a.lb] 27) = w1 at *
  clear hw1
  refine (unhide KI w1).mono ?_
  rintro e1 w1' ⟨rfl, hw⟩
  have hw2 := hw.symm
  subst hw2
  clear hw KI
  have ka1 : w1.cell? ⟨w.heap.size, 1, none⟩ = some (.int .i64 1) := row_cell (unhide HN)
  go_wp2_with (at_builtin; refine wpList_copy8 w1 rfl _ _ rfl w1.heap.size g c rfl (.slice A0 z.x.q.length r0) (.int .i64 z.x.s) (.int .i64 z.x.e) (.slice B0 z.x.i.length r1) (.slice A1 z.y.q.length r2) (.int .i64 z.y.s) (.int .i64 z.y.e) (.slice B1 z.y.i.length r3) rest rfl rfl (unhide HR) (by simp [Value.oneCell']) ?_
               intro g' c' w6 rs b6 row6 lg6 hc6
               have B6 := hide (bl_st b6 (unhide HB))
               have Z6 := hide (show w.heap.size + 1 ≤ g' by have := unhide ZW; omega)
               have b6b := hide b6
               have R6 := hide row6
               have HC6 := hide hc6
               have N6 := hide ((b6.block _ (Array.getElem?_eq_some_iff.1 (unhide HN)).1).trans (unhide HN))
               clear ka1
               have ka1 : w6.cell? ⟨w.heap.size, 1, none⟩ = some (.int .i64 1) := row_cell (unhide N6)
               clear k0 k1 k2 k3 k4 k5 k6 k7
               have k0 := row6.c0
               have k1 := row6.c1
               have k2 := row6.c2
               have k3 := row6.c3
               have k4 := row6.c4
               have k5 := row6.c5
               have k6 := row6.c6
               have k7 := row6.c7
               clear row6 b6 lg6 hc6)
  refine wp_region_late (S := fun W' => row8 W' g' (.slice A0 z.x.q.length r0) (.int .i64 z.x.s) (.int .i64 z.x.e) (.slice B0 z.x.i.length r1) (.slice A1 z.y.q.length r2) (.int .i64 z.y.s) (.int .i64 z.y.e) (.slice B1 z.y.i.length r3) rs ∧ W'.heap[w.heap.size]? = some (.cells #[.int .i64 3, .int .i64 1, .string a.t, .bool a.la, .bool a.lb] 27 (0, 0))) (late := [14]) (by kernel_rfl) ?_
  have hS0 : Below w6.heap.size w6 { w6 with drawn := w6.drawn + 1 } := below_drewN (Below.refl _ _) 1
  have SF : _ ∧ _ := ⟨(unhide R6).below hS0, (hS0.block _ (Array.getElem?_eq_some_iff.1 (unhide N6)).1).trans (unhide N6)⟩
  clear k0 k1 k2 k3 k4 k5 k6 k7 ka1
  refine wpAnyL_take (i := 0) (oi := { dst := some 96, op := Op.move (Operand.tmp 12), type := 41, pos := "l15_talk.go:118", after := #[], guard := none }) (v := ?_) rfl (by kernel_rfl) (by kernel_rfl) (by kernel_rfl) (by kernel_rfl) (fun _ _ _ h => h) (Or.inl ⟨by rfl, ?_⟩) SF ?_
  rotate_left
  · intro W hSw
    have k0 := hSw.1.c0
    have k1 := hSw.1.c1
    have k2 := hSw.1.c2
    have k3 := hSw.1.c3
    have k4 := hSw.1.c4
    have k5 := hSw.1.c5
    have k6 := hSw.1.c6
    have k7 := hSw.1.c7
    have ka1 : W.cell? ⟨w.heap.size, 1, none⟩ = some (.int .i64 1) := row_cell hSw.2
    go_simp
    try with_reducible rfl
  simp only [Act.put, List.setIfInBounds_toArray, List.set_cons_zero, List.set_cons_succ]
  refine wpAnyL_take (i := 1) (oi := { dst := some 97, op := Op.fieldAddr 27 (Operand.tmp 3) 1, type := 0, pos := "l15_talk.go:118", after := #[], guard := none }) (v := ?_) rfl (by kernel_rfl) (by kernel_rfl) (by kernel_rfl) (by kernel_rfl) (fun _ _ _ h => h) (Or.inl ⟨by rfl, ?_⟩) SF ?_
  rotate_left
  · intro W hSw
    have k0 := hSw.1.c0
    have k1 := hSw.1.c1
    have k2 := hSw.1.c2
    have k3 := hSw.1.c3
    have k4 := hSw.1.c4
    have k5 := hSw.1.c5
    have k6 := hSw.1.c6
    have k7 := hSw.1.c7
    have ka1 : W.cell? ⟨w.heap.size, 1, none⟩ = some (.int .i64 1) := row_cell hSw.2
    go_simp
    try with_reducible rfl
  simp only [Act.put, List.setIfInBounds_toArray, List.set_cons_zero, List.set_cons_succ]
  refine wpAnyL_take (i := 2) (oi := { dst := some 98, op := Op.load 3 (Operand.tmp 97), type := 3, pos := "l15_talk.go:118", after := #[{ on := 1, ground := Ground.data }], guard := none }) (v := ?_) rfl (by kernel_rfl) (by kernel_rfl) (by kernel_rfl) (by kernel_rfl) (fun _ _ _ h => h) (Or.inl ⟨by rfl, ?_⟩) SF ?_
  rotate_left
  · intro W hSw
    have k0 := hSw.1.c0
    have k1 := hSw.1.c1
    have k2 := hSw.1.c2
    have k3 := hSw.1.c3
    have k4 := hSw.1.c4
    have k5 := hSw.1.c5
    have k6 := hSw.1.c6
    have k7 := hSw.1.c7
    have ka1 : W.cell? ⟨w.heap.size, 1, none⟩ = some (.int .i64 1) := row_cell hSw.2
    go_simp
    try with_reducible rfl
  simp only [Act.put, List.setIfInBounds_toArray, List.set_cons_zero, List.set_cons_succ]
  refine wpAnyL_take (i := 4) (oi := { dst := some 100, op := Op.move (Operand.tmp 12), type := 41, pos := "l15_talk.go:118", after := #[], guard := none }) (v := ?_) rfl (by kernel_rfl) (by kernel_rfl) (by kernel_rfl) (by kernel_rfl) (fun _ _ _ h => h) (Or.inl ⟨by rfl, ?_⟩) SF ?_
  rotate_left
  · intro W hSw
    have k0 := hSw.1.c0
    have k1 := hSw.1.c1
    have k2 := hSw.1.c2
    have k3 := hSw.1.c3
    have k4 := hSw.1.c4
    have k5 := hSw.1.c5
    have k6 := hSw.1.c6
    have k7 := hSw.1.c7
    have ka1 : W.cell? ⟨w.heap.size, 1, none⟩ = some (.int .i64 1) := row_cell hSw.2
    go_simp
    try with_reducible rfl
  simp only [Act.put, List.setIfInBounds_toArray, List.set_cons_zero, List.set_cons_succ]
  refine wpAnyL_take (i := 5) (oi := { dst := some 101, op := Op.fieldAddr 27 (Operand.tmp 3) 1, type := 0, pos := "l15_talk.go:118", after := #[], guard := none }) (v := ?_) rfl (by kernel_rfl) (by kernel_rfl) (by kernel_rfl) (by kernel_rfl) (fun _ _ _ h => h) (Or.inl ⟨by rfl, ?_⟩) SF ?_
  rotate_left
  · intro W hSw
    have k0 := hSw.1.c0
    have k1 := hSw.1.c1
    have k2 := hSw.1.c2
    have k3 := hSw.1.c3
    have k4 := hSw.1.c4
    have k5 := hSw.1.c5
    have k6 := hSw.1.c6
    have k7 := hSw.1.c7
    have ka1 : W.cell? ⟨w.heap.size, 1, none⟩ = some (.int .i64 1) := row_cell hSw.2
    go_simp
    try with_reducible rfl
  simp only [Act.put, List.setIfInBounds_toArray, List.set_cons_zero, List.set_cons_succ]
  refine wpAnyL_take (i := 6) (oi := { dst := some 102, op := Op.load 3 (Operand.tmp 101), type := 3, pos := "l15_talk.go:118", after := #[{ on := 5, ground := Ground.data }], guard := none }) (v := ?_) rfl (by kernel_rfl) (by kernel_rfl) (by kernel_rfl) (by kernel_rfl) (fun _ _ _ h => h) (Or.inl ⟨by rfl, ?_⟩) SF ?_
  rotate_left
  · intro W hSw
    have k0 := hSw.1.c0
    have k1 := hSw.1.c1
    have k2 := hSw.1.c2
    have k3 := hSw.1.c3
    have k4 := hSw.1.c4
    have k5 := hSw.1.c5
    have k6 := hSw.1.c6
    have k7 := hSw.1.c7
    have ka1 : W.cell? ⟨w.heap.size, 1, none⟩ = some (.int .i64 1) := row_cell hSw.2
    go_simp
    try with_reducible rfl
  simp only [Act.put, List.setIfInBounds_toArray, List.set_cons_zero, List.set_cons_succ]
  refine wpAnyL_take (i := 7) (oi := { dst := some 103, op := Op.indexAddr 41 (Operand.tmp 100) (Operand.tmp 102), type := 0, pos := "l15_talk.go:118", after := #[{ on := 4, ground := Ground.data }, { on := 6, ground := Ground.data }], guard := none }) (v := ?_) rfl (by kernel_rfl) (by kernel_rfl) (by kernel_rfl) (by kernel_rfl) (fun _ _ _ h => h) (Or.inl ⟨by rfl, ?_⟩) SF ?_
  rotate_left
  · intro W hSw
    have k0 := hSw.1.c0
    have k1 := hSw.1.c1
    have k2 := hSw.1.c2
    have k3 := hSw.1.c3
    have k4 := hSw.1.c4
    have k5 := hSw.1.c5
    have k6 := hSw.1.c6
    have k7 := hSw.1.c7
    have ka1 : W.cell? ⟨w.heap.size, 1, none⟩ = some (.int .i64 1) := row_cell hSw.2
    go_simp
    try with_reducible rfl
  simp only [Act.put, List.setIfInBounds_toArray, List.set_cons_zero, List.set_cons_succ]
  refine wpAnyL_take (i := 8) (oi := { dst := some 104, op := Op.fieldAddr 53 (Operand.tmp 103) 0, type := 0, pos := "l15_talk.go:118", after := #[{ on := 7, ground := Ground.data }], guard := none }) (v := ?_) rfl (by kernel_rfl) (by kernel_rfl) (by kernel_rfl) (by kernel_rfl) (fun _ _ _ h => h) (Or.inl ⟨by rfl, ?_⟩) SF ?_
  rotate_left
  · intro W hSw
    have k0 := hSw.1.c0
    have k1 := hSw.1.c1
    have k2 := hSw.1.c2
    have k3 := hSw.1.c3
    have k4 := hSw.1.c4
    have k5 := hSw.1.c5
    have k6 := hSw.1.c6
    have k7 := hSw.1.c7
    have ka1 : W.cell? ⟨w.heap.size, 1, none⟩ = some (.int .i64 1) := row_cell hSw.2
    go_simp
    try with_reducible rfl
  simp only [Act.put, List.setIfInBounds_toArray, List.set_cons_zero, List.set_cons_succ]
  refine wpAnyL_take (i := 9) (oi := { dst := some 105, op := Op.load 23 (Operand.tmp 104), type := 23, pos := "l15_talk.go:118", after := #[{ on := 8, ground := Ground.data }], guard := none }) (v := ?_) rfl (by kernel_rfl) (by kernel_rfl) (by kernel_rfl) (by kernel_rfl) (fun _ _ _ h => h) (Or.inl ⟨by rfl, ?_⟩) SF ?_
  rotate_left
  · intro W hSw
    have k0 := hSw.1.c0
    have k1 := hSw.1.c1
    have k2 := hSw.1.c2
    have k3 := hSw.1.c3
    have k4 := hSw.1.c4
    have k5 := hSw.1.c5
    have k6 := hSw.1.c6
    have k7 := hSw.1.c7
    have ka1 : W.cell? ⟨w.heap.size, 1, none⟩ = some (.int .i64 1) := row_cell hSw.2
    go_simp
    try with_reducible rfl
  simp only [Act.put, List.setIfInBounds_toArray, List.set_cons_zero, List.set_cons_succ]
  refine wpAnyL_take (i := 10) (oi := { dst := some 106, op := Op.slice 23 (Operand.tmp 105) none (some (Operand.const (Value.int IntKind.i64 1))) none, type := 23, pos := "l15_talk.go:118", after := #[{ on := 9, ground := Ground.data }], guard := none }) (v := ?_) rfl (by kernel_rfl) (by kernel_rfl) (by kernel_rfl) (by kernel_rfl) (fun _ _ _ h => h) (Or.inl ⟨by rfl, ?_⟩) SF ?_
  rotate_left
  · intro W hSw
    have k0 := hSw.1.c0
    have k1 := hSw.1.c1
    have k2 := hSw.1.c2
    have k3 := hSw.1.c3
    have k4 := hSw.1.c4
    have k5 := hSw.1.c5
    have k6 := hSw.1.c6
    have k7 := hSw.1.c7
    have ka1 : W.cell? ⟨w.heap.size, 1, none⟩ = some (.int .i64 1) := row_cell hSw.2
    go_simp
    try with_reducible rfl
  simp only [Act.put, List.setIfInBounds_toArray, List.set_cons_zero, List.set_cons_succ]
  refine wpAnyL_one (i := 3) (by kernel_rfl) ?_
  refine wpOp_step (o := { dst := some 99, op := Op.buildSlice 23 0 #[], type := 23, pos := "l15_talk.go:118", after := #[], guard := none }) rfl fun K' hK => step_valueW (by rfl) (.slice (some ⟨w6.heap.size, 0, none⟩) 0 0) ({ w6 with drawn := w6.drawn + 1 }.alloc (.cells #[] 9)) (by go_simp) ?_
  have bA : Below w6.heap.size w6 ({ w6 with drawn := w6.drawn + 1 }.alloc (.cells #[] 9)) := bl_al hS0
  have SFA := (show _ ∧ _ from ⟨(unhide R6).below bA, (bA.block _ (Array.getElem?_eq_some_iff.1 (unhide N6)).1).trans (unhide N6)⟩)
  refine hK _ _ ⟨(fun _ => SFA), ?_⟩
  simp only [Act.put, List.setIfInBounds_toArray, List.set_cons_zero, List.set_cons_succ]
  obtain ⟨g1, c1, w8, hrun, cp⟩ := run_copy { w6 with drawn := w6.drawn + 1 } 23 w6.heap.size rfl (.slice A1 1 r2) (z.y.q.take 1) ((unhide HT1).below ((unhide b6b).trans (hS0.mono (unhide b6b).size))) (by rw [unhide HL1]; omega)
  have s8 := bl_st cp.be hS0
  have SG : _ ∧ _ := ⟨(unhide R6).below s8, (s8.block _ (Array.getElem?_eq_some_iff.1 (unhide N6)).1).trans (unhide N6)⟩
  refine wpAnyL_one (i := 11) (by kernel_rfl) ?_
  refine wpOp_step (o := { dst := some 107, op := Op.call { callee := Callee.builtin Builtin.append, args := #[Operand.tmp 99, Operand.tmp 106], argTypes := #[23, 23] }, type := 23, pos := "l15_talk.go:118", after := #[{ on := 3, ground := Ground.data }, { on := 10, ground := Ground.data }], guard := none }) rfl fun K' hK => step_appendW (by rfl) _ _ rfl _ _ _ _ rfl rfl hrun ?_
  refine hK _ _ ⟨(fun _ => SG), ?_⟩
  simp only [Act.put, List.setIfInBounds_toArray, List.set_cons_zero, List.set_cons_succ]
  have x0 := SG.1.c4
  have y0 := SG.1.fz 4
  refine wpAnyL_one (i := 12) (by kernel_rfl) ?_
  refine wpOp_step (o := { dst := some 108, op := Op.indexAddr 41 (Operand.tmp 96) (Operand.tmp 98), type := 0, pos := "l15_talk.go:118", after := #[{ on := 0, ground := Ground.data }, { on := 2, ground := Ground.data }, { on := 0, ground := Ground.phase }, { on := 1, ground := Ground.phase }, { on := 2, ground := Ground.phase }, { on := 3, ground := Ground.phase }, { on := 4, ground := Ground.phase }, { on := 5, ground := Ground.phase }, { on := 6, ground := Ground.phase }, { on := 7, ground := Ground.phase }, { on := 8, ground := Ground.phase }, { on := 9, ground := Ground.phase }, { on := 10, ground := Ground.phase }, { on := 11, ground := Ground.phase }], guard := none }) rfl fun K' hK => step_valueW (by rfl) (.pointer (some ⟨g', 4, none⟩)) (w8) (by go_simp) ?_
  refine hK _ _ ⟨(fun _ => SG), ?_⟩
  simp only [Act.put, List.setIfInBounds_toArray, List.set_cons_zero, List.set_cons_succ]
  refine wpAnyL_one (i := 13) (by kernel_rfl) ?_
  refine wpOp_step (o := { dst := some 109, op := Op.fieldAddr 53 (Operand.tmp 108) 0, type := 0, pos := "l15_talk.go:118", after := #[{ on := 12, ground := Ground.data }, { on := 0, ground := Ground.phase }, { on := 1, ground := Ground.phase }, { on := 2, ground := Ground.phase }, { on := 3, ground := Ground.phase }, { on := 4, ground := Ground.phase }, { on := 5, ground := Ground.phase }, { on := 6, ground := Ground.phase }, { on := 7, ground := Ground.phase }, { on := 8, ground := Ground.phase }, { on := 9, ground := Ground.phase }, { on := 10, ground := Ground.phase }, { on := 11, ground := Ground.phase }], guard := none }) rfl fun K' hK => step_valueW (by rfl) (.pointer (some ⟨g', 4, none⟩)) (w8) (by go_simp) ?_
  refine hK _ _ ⟨(fun _ => SG), ?_⟩
  simp only [Act.put, List.setIfInBounds_toArray, List.set_cons_zero, List.set_cons_succ]
  refine wpAnyL_one (i := 14) (by kernel_rfl) ?_
  refine wpOp_step (o := { dst := none, op := Op.store 23 (Operand.tmp 109) (Operand.tmp 107), type := 0, pos := "l15_talk.go:118", after := #[{ on := 13, ground := Ground.data }, { on := 11, ground := Ground.data }, { on := 11, ground := Ground.chain }, { on := 0, ground := Ground.phase }, { on := 1, ground := Ground.phase }, { on := 2, ground := Ground.phase }, { on := 3, ground := Ground.phase }, { on := 4, ground := Ground.phase }, { on := 5, ground := Ground.phase }, { on := 6, ground := Ground.phase }, { on := 7, ground := Ground.phase }, { on := 8, ground := Ground.phase }, { on := 9, ground := Ground.phase }, { on := 10, ground := Ground.phase }, { on := 11, ground := Ground.phase }], guard := none }) rfl fun K' hK => step_skipW (by rfl) (w8.setCell ⟨g', 4, none⟩ (.slice (some ⟨g1, 0, none⟩) (z.y.q.take 1).length c1)) (by go_simp) ?_
  refine hK _ _ ⟨(fun h => by cases h), ?_⟩
  try simp only [Act.put]
  refine wpAnyL_done (by kernel_rfl) ?_ _
  have LN : Lone g' w8 (w8.setCell ⟨g', 4, none⟩ (.slice (some ⟨g1, 0, none⟩) (z.y.q.take 1).length c1)) := lone_setCell g' 4 w8 (.slice (some ⟨g1, 0, none⟩) (z.y.q.take 1).length c1)
  have z6 := unhide Z6
  have l6 := (unhide R6).lt
  have zw := unhide ZW
  have lo8 := cp.lo
  have szD : ({ w6 with drawn := w6.drawn + 1 } : World).heap.size = w6.heap.size := rfl
  have BF := hide (LN.below (bl_st s8 (unhide B6)) (by omega) (bl_st s8 (unhide B6)).size)
  have RF := hide (SG.1.set4 (.slice (some ⟨g1, 0, none⟩) (z.y.q.take 1).length c1))
  have b18 := bl_st s8 (unhide b6b)
  have VQ9 := hide (strs_lone8 cp.own.strs LN (fun A n c e hn hk => by have : g1 = g' := Option.some.inj hk; omega))
  have VI9 := hide (strs_lone8 ((unhide VI).below b18) LN (unhide OI g' (by omega)))
  have VO9 := hide (peV_lone8 ((unhide HP).below b18) LN (unhide OX g' (by omega)))
  have LO1 := hide (show w.heap.size ≤ g1 by omega)
  have C9 : Hid ((z.y.q.take 1).length ≤ c1) := hide (by obtain ⟨A', c', e', h'⟩ := cp.own.cap; have x : c1 = c' := (Value.slice.inj e').2.2; rw [x]; exact h')
  clear LN SG SF s8 cp hrun x0 y0 hS0 b18 l6 zw lo8 szD z6
  generalize w8.setCell ⟨g', 4, none⟩ (.slice (some ⟨g1, 0, none⟩) (z.y.q.take 1).length c1) = w9 at *
  go_wp2
  go_ret2
  rw [unhide HF]
  refine ⟨_, rfl, ⟨g', c', _, _, _, _, rs, rfl, unhide HC6, unhide RF, unhide VO9, unhide KP, ⟨_, _, rfl, unhide VQ9, unhide VI9⟩, ⟨_, _, _, rfl, unhide C9⟩⟩, fun b hb ho => ?_, unhide BF⟩
  obtain ⟨t0, t3, t4, t7⟩ := unhide OT b ho
  have un : offB b (.slice (some ⟨g1, 0, none⟩) (z.y.q.take 1).length c1) := fun A n c e hn hk => by have : g1 = b := Option.some.inj hk; have := unhide LO1; omega
  exact ⟨g', c', _, _, _, _, _, _, _, _, rs, rfl, unhide RF, t0, t3, un, t7⟩
end Go.Proofs.YtbkcgkffafjbgaaGreatDoor
