/- One act of two, by the specification: something said. -/
import Derived.Test.YtbkcgkffafjbgaaGreatDoorGf
namespace Go.Proofs.YtbkcgkffafjbgaaGreatDoor
open Go.RowKit
set_option maxHeartbeats 4000000
set_option maxRecDepth 20000
set_option linter.unusedVariables false
theorem step_say_no (v : Value) (z : Tw) (a : Ta) (w : World) (hv : twV w v z) (hx : peFew z.x) (hy : peFew z.y) (ht : a.t.size ≤ maxLen) (sx : 0 ≤ z.x.s ∧ z.x.s ≤ 1048576) (ex : 0 ≤ z.x.e ∧ z.x.e ≤ 1048576) (sy : 0 ≤ z.y.s ∧ z.y.s ≤ 1048576) (ey : 0 ≤ z.y.e ∧ z.y.e ≤ 1048576) (h1 : a.k = 1) (hw : okW a.w = false) :
    Calls Tryz.prog 22 #[v, taV a] w fun e w' => ∃ r, e = .returned (.tuple #[r, .int .i64 (stepF z a).2]) ∧ twV w' r (stepF z a).1 ∧ (∀ b, b < w.heap.size → offT b w v → offT b w' r) ∧ Below w.heap.size w w' := by
  obtain ⟨g, c, q0, i0, q1, i1, rest, rfl, hc, hr, hp, kp, hq, kq⟩ := hv
  obtain ⟨A0, r0, B0, r1, e0⟩ := hp.slices
  obtain ⟨A1, r2, B1, r3, e1⟩ := hq.slices
  have e00 : q0 = .slice A0 z.x.q.length r0 ∧ i0 = .slice B0 z.x.i.length r1 := peA_inj e0
  have e11 : q1 = .slice A1 z.y.q.length r2 ∧ i1 = .slice B1 z.y.i.length r3 := peA_inj e1
  obtain ⟨rfl, rfl⟩ := e00
  obtain ⟨rfl, rfl⟩ := e11
  clear e0 e1
  have B1w : Below w.heap.size w (w.alloc (.cells #[.int .i64 a.k, .int .i64 a.w, .string a.t, .bool a.la, .bool a.lb] 27)) := bl_al (Below.refl _ _)
  have HB := hide B1w
  have HR := hide (hr.below B1w)
  have HP := hide (hp.below B1w)
  have HQ := hide (hq.below B1w)
  have KP := hide kp
  have KQ := hide kq
  have HN := hide (heap_alloc_new w (.cells #[.int .i64 a.k, .int .i64 a.w, .string a.t, .bool a.la, .bool a.lb] 27))
  have HCC := hide hc
  have VV : Hid (twV (w.alloc (.cells #[.int .i64 a.k, .int .i64 a.w, .string a.t, .bool a.la, .bool a.lb] 27)) (.slice (some ⟨g, 0, none⟩) 2 c) z) := hide ⟨g, c, _, _, _, _, rest, rfl, hc, hr.below B1w, hp.below B1w, kp, hq.below B1w, kq⟩
  have OT := hide (fun b (ho : offT b w (.slice (some ⟨g, 0, none⟩) 2 c)) => ho.row hr)
  show Calls Tryz.prog 22 #[.slice (some ⟨g, 0, none⟩) 2 c, taA a.k a.w a.t a.la a.lb] w _
  have gl := hr.lt
  have HF := hide (show stepF z a = (z, 4) by unfold stepF; rw [if_pos h1]; rw [if_neg (by rw [hw]; decide)])
  have KI := hide (fun W => in56 a.w 0 1 W)
  rw [show (decide (0 ≤ a.w) && decide (a.w ≤ 1)) = false from hw] at KI
  rw [h1] at *
  clear hr hp hq kp kq HR HP HQ B1w hx hy sx ex sy ey ht hw h1
  go_enter Tryz.func22, Tryz.ntmps22
  go_wp2_with fail
  refine (unhide KI _).mono ?_
  rintro e1 w2 ⟨rfl, hw⟩
  have hw2 := hw.symm
  subst hw2
  go_wp2
  go_ret2
  rw [unhide HF]
  exact ⟨_, rfl, unhide VV, fun b _ ho => ho.below (unhide HB), unhide HB⟩
theorem step_say0 (v : Value) (z : Tw) (a : Ta) (w : World) (hv : twV w v z) (hx : peFew z.x) (hy : peFew z.y) (ht : a.t.size ≤ maxLen) (sx : 0 ≤ z.x.s ∧ z.x.s ≤ 1048576) (ex : 0 ≤ z.x.e ∧ z.x.e ≤ 1048576) (sy : 0 ≤ z.y.s ∧ z.y.s ≤ 1048576) (ey : 0 ≤ z.y.e ∧ z.y.e ≤ 1048576) (h1 : a.k = 1) (hw : a.w = 0) :
    Calls Tryz.prog 22 #[v, taV a] w fun e w' => ∃ r, e = .returned (.tuple #[r, .int .i64 (stepF z a).2]) ∧ twV w' r (stepF z a).1 ∧ (∀ b, b < w.heap.size → offT b w v → offT b w' r) ∧ Below w.heap.size w w' := by
  obtain ⟨g, c, q0, i0, q1, i1, rest, rfl, hc, hr, hp, kp, hq, kq⟩ := hv
  obtain ⟨A0, r0, B0, r1, e0⟩ := hp.slices
  obtain ⟨A1, r2, B1, r3, e1⟩ := hq.slices
  have e00 : q0 = .slice A0 z.x.q.length r0 ∧ i0 = .slice B0 z.x.i.length r1 := peA_inj e0
  have e11 : q1 = .slice A1 z.y.q.length r2 ∧ i1 = .slice B1 z.y.i.length r3 := peA_inj e1
  obtain ⟨rfl, rfl⟩ := e00
  obtain ⟨rfl, rfl⟩ := e11
  clear e0 e1
  have B1w : Below w.heap.size w (w.alloc (.cells #[.int .i64 a.k, .int .i64 a.w, .string a.t, .bool a.la, .bool a.lb] 27)) := bl_al (Below.refl _ _)
  have HB := hide B1w
  have HR := hide (hr.below B1w)
  have HP := hide (hp.below B1w)
  have HQ := hide (hq.below B1w)
  have KP := hide kp
  have KQ := hide kq
  have HN := hide (heap_alloc_new w (.cells #[.int .i64 a.k, .int .i64 a.w, .string a.t, .bool a.la, .bool a.lb] 27))
  have HCC := hide hc
  have VV : Hid (twV (w.alloc (.cells #[.int .i64 a.k, .int .i64 a.w, .string a.t, .bool a.la, .bool a.lb] 27)) (.slice (some ⟨g, 0, none⟩) 2 c) z) := hide ⟨g, c, _, _, _, _, rest, rfl, hc, hr.below B1w, hp.below B1w, kp, hq.below B1w, kq⟩
  have OT := hide (fun b (ho : offT b w (.slice (some ⟨g, 0, none⟩) 2 c)) => ho.row hr)
  show Calls Tryz.prog 22 #[.slice (some ⟨g, 0, none⟩) 2 c, taA a.k a.w a.t a.la a.lb] w _
  have gl := hr.lt
  have HF := hide (show stepF z a = (⟨(sayF z.x a.t).1, z.y⟩, (sayF z.x a.t).2) by unfold stepF; rw [if_pos h1, hw, if_pos (by decide)]; rfl)
  have KI := hide (fun W => in56 0 0 1 W)
  rw [show (decide ((0 : Int) ≤ 0) && decide ((0 : Int) ≤ 1)) = true from by decide] at KI
  have KS := hide (fun u W (h : peV W u z.x) => say60 u z.x a.t W h hx ht)
  have OX := hide (fun b (hb : w.heap.size ≤ b) => offP_old hp hb)
  have OY := hide (fun b (hb : w.heap.size ≤ b) => offP_old hq hb)
  have ZW : Hid (g < w.heap.size ∧ (w.alloc (.cells #[.int .i64 a.k, .int .i64 a.w, .string a.t, .bool a.la, .bool a.lb] 27)).heap.size = w.heap.size + 1) := hide ⟨gl, by simp⟩
  generalize hss : sayF z.x a.t = ss at *
  obtain ⟨y, cd⟩ := ss
  dsimp only at *
  rw [h1, hw] at *
  have k0 := (unhide HR).c0
  have k1 := (unhide HR).c1
  have k2 := (unhide HR).c2
  have k3 := (unhide HR).c3
  have k4 := (unhide HR).c4
  have k5 := (unhide HR).c5
  have k6 := (unhide HR).c6
  have k7 := (unhide HR).c7
  clear hr hp hq kp kq B1w hx hy sx ex sy ey ht hw h1 hss VV gl hc
  go_enter Tryz.func22, Tryz.ntmps22
  go_wp2_with fail
  generalize hw1 : w.alloc (.cells #[.int .i64 1, .int .i64 0, .string a.t, .bool a.la, .bool a.lb] 27) = w1 at *
  clear hw1
  refine (unhide KI w1).mono ?_
  rintro e1 w1' ⟨rfl, hw⟩
  have hw2 := hw.symm
  subst hw2
  clear hw KI
  have ka1 : w1.cell? ⟨w.heap.size, 1, none⟩ = some (.int .i64 0) := row_cell (unhide HN)
  have ka2 : w1.cell? ⟨w.heap.size, 2, none⟩ = some (.string a.t) := row_cell (unhide HN)
  go_wp2
  refine wp_region_late (S := fun W' => row8 W' g (.slice A0 z.x.q.length r0) (.int .i64 z.x.s) (.int .i64 z.x.e) (.slice B0 z.x.i.length r1) (.slice A1 z.y.q.length r2) (.int .i64 z.y.s) (.int .i64 z.y.e) (.slice B1 z.y.i.length r3) rest ∧ W'.heap[w.heap.size]? = some (.cells #[.int .i64 1, .int .i64 0, .string a.t, .bool a.la, .bool a.lb] 27 (0, 0))) (late := []) (by kernel_rfl) ?_
  have hS0 : Below w1.heap.size w1 { w1 with drawn := w1.drawn + 1 } := below_drewN (Below.refl _ _) 1
  have SF : _ ∧ _ := ⟨(unhide HR).below hS0, (hS0.block _ (Array.getElem?_eq_some_iff.1 (unhide HN)).1).trans (unhide HN)⟩
  clear k0 k1 k2 k3 k4 k5 k6 k7 ka1 ka2
  refine wpAnyL_take (i := 0) (oi := { dst := some 23, op := Op.move (Operand.tmp 0), type := 41, pos := "l15_talk.go:93", after := #[], guard := none }) (v := ?_) rfl (by kernel_rfl) (by kernel_rfl) (by kernel_rfl) (by kernel_rfl) (fun _ _ _ h => h) (Or.inl ⟨by rfl, ?_⟩) SF ?_
  rotate_left
  · intro W hSw
    have k0 := hSw.1.c0
    have k1 := hSw.1.c1
    have k2 := hSw.1.c2
    have k3 := hSw.1.c3
    have k4 := hSw.1.c4
    have k5 := hSw.1.c5
    have k6 := hSw.1.c6
    have k7 := hSw.1.c7
    have ka1 : W.cell? ⟨w.heap.size, 1, none⟩ = some (.int .i64 0) := row_cell hSw.2
    have ka2 : W.cell? ⟨w.heap.size, 2, none⟩ = some (.string a.t) := row_cell hSw.2
    go_simp
    try with_reducible rfl
  simp only [Act.put, List.setIfInBounds_toArray, List.set_cons_zero, List.set_cons_succ]
  refine wpAnyL_take (i := 1) (oi := { dst := some 24, op := Op.fieldAddr 27 (Operand.tmp 3) 1, type := 0, pos := "l15_talk.go:93", after := #[], guard := none }) (v := ?_) rfl (by kernel_rfl) (by kernel_rfl) (by kernel_rfl) (by kernel_rfl) (fun _ _ _ h => h) (Or.inl ⟨by rfl, ?_⟩) SF ?_
  rotate_left
  · intro W hSw
    have k0 := hSw.1.c0
    have k1 := hSw.1.c1
    have k2 := hSw.1.c2
    have k3 := hSw.1.c3
    have k4 := hSw.1.c4
    have k5 := hSw.1.c5
    have k6 := hSw.1.c6
    have k7 := hSw.1.c7
    have ka1 : W.cell? ⟨w.heap.size, 1, none⟩ = some (.int .i64 0) := row_cell hSw.2
    have ka2 : W.cell? ⟨w.heap.size, 2, none⟩ = some (.string a.t) := row_cell hSw.2
    go_simp
    try with_reducible rfl
  simp only [Act.put, List.setIfInBounds_toArray, List.set_cons_zero, List.set_cons_succ]
  refine wpAnyL_take (i := 2) (oi := { dst := some 25, op := Op.load 3 (Operand.tmp 24), type := 3, pos := "l15_talk.go:93", after := #[{ on := 1, ground := Ground.data }], guard := none }) (v := ?_) rfl (by kernel_rfl) (by kernel_rfl) (by kernel_rfl) (by kernel_rfl) (fun _ _ _ h => h) (Or.inl ⟨by rfl, ?_⟩) SF ?_
  rotate_left
  · intro W hSw
    have k0 := hSw.1.c0
    have k1 := hSw.1.c1
    have k2 := hSw.1.c2
    have k3 := hSw.1.c3
    have k4 := hSw.1.c4
    have k5 := hSw.1.c5
    have k6 := hSw.1.c6
    have k7 := hSw.1.c7
    have ka1 : W.cell? ⟨w.heap.size, 1, none⟩ = some (.int .i64 0) := row_cell hSw.2
    have ka2 : W.cell? ⟨w.heap.size, 2, none⟩ = some (.string a.t) := row_cell hSw.2
    go_simp
    try with_reducible rfl
  simp only [Act.put, List.setIfInBounds_toArray, List.set_cons_zero, List.set_cons_succ]
  refine wpAnyL_take (i := 3) (oi := { dst := some 26, op := Op.indexAddr 41 (Operand.tmp 23) (Operand.tmp 25), type := 0, pos := "l15_talk.go:93", after := #[{ on := 0, ground := Ground.data }, { on := 2, ground := Ground.data }], guard := none }) (v := ?_) rfl (by kernel_rfl) (by kernel_rfl) (by kernel_rfl) (by kernel_rfl) (fun _ _ _ h => h) (Or.inl ⟨by rfl, ?_⟩) SF ?_
  rotate_left
  · intro W hSw
    have k0 := hSw.1.c0
    have k1 := hSw.1.c1
    have k2 := hSw.1.c2
    have k3 := hSw.1.c3
    have k4 := hSw.1.c4
    have k5 := hSw.1.c5
    have k6 := hSw.1.c6
    have k7 := hSw.1.c7
    have ka1 : W.cell? ⟨w.heap.size, 1, none⟩ = some (.int .i64 0) := row_cell hSw.2
    have ka2 : W.cell? ⟨w.heap.size, 2, none⟩ = some (.string a.t) := row_cell hSw.2
    go_simp
    try with_reducible rfl
  simp only [Act.put, List.setIfInBounds_toArray, List.set_cons_zero, List.set_cons_succ]
  refine wpAnyL_take (i := 4) (oi := { dst := some 27, op := Op.load 53 (Operand.tmp 26), type := 53, pos := "l15_talk.go:93", after := #[{ on := 3, ground := Ground.data }], guard := none }) (v := ?_) rfl (by kernel_rfl) (by kernel_rfl) (by kernel_rfl) (by kernel_rfl) (fun _ _ _ h => h) (Or.inl ⟨by rfl, ?_⟩) SF ?_
  rotate_left
  · intro W hSw
    have k0 := hSw.1.c0
    have k1 := hSw.1.c1
    have k2 := hSw.1.c2
    have k3 := hSw.1.c3
    have k4 := hSw.1.c4
    have k5 := hSw.1.c5
    have k6 := hSw.1.c6
    have k7 := hSw.1.c7
    have ka1 : W.cell? ⟨w.heap.size, 1, none⟩ = some (.int .i64 0) := row_cell hSw.2
    have ka2 : W.cell? ⟨w.heap.size, 2, none⟩ = some (.string a.t) := row_cell hSw.2
    go_simp
    try with_reducible rfl
  simp only [Act.put, List.setIfInBounds_toArray, List.set_cons_zero, List.set_cons_succ]
  refine wpAnyL_take (i := 5) (oi := { dst := some 28, op := Op.fieldAddr 27 (Operand.tmp 3) 2, type := 0, pos := "l15_talk.go:93", after := #[], guard := none }) (v := ?_) rfl (by kernel_rfl) (by kernel_rfl) (by kernel_rfl) (by kernel_rfl) (fun _ _ _ h => h) (Or.inl ⟨by rfl, ?_⟩) SF ?_
  rotate_left
  · intro W hSw
    have k0 := hSw.1.c0
    have k1 := hSw.1.c1
    have k2 := hSw.1.c2
    have k3 := hSw.1.c3
    have k4 := hSw.1.c4
    have k5 := hSw.1.c5
    have k6 := hSw.1.c6
    have k7 := hSw.1.c7
    have ka1 : W.cell? ⟨w.heap.size, 1, none⟩ = some (.int .i64 0) := row_cell hSw.2
    have ka2 : W.cell? ⟨w.heap.size, 2, none⟩ = some (.string a.t) := row_cell hSw.2
    go_simp
    try with_reducible rfl
  simp only [Act.put, List.setIfInBounds_toArray, List.set_cons_zero, List.set_cons_succ]
  refine wpAnyL_take (i := 6) (oi := { dst := some 29, op := Op.load 9 (Operand.tmp 28), type := 9, pos := "l15_talk.go:93", after := #[{ on := 5, ground := Ground.data }], guard := none }) (v := ?_) rfl (by kernel_rfl) (by kernel_rfl) (by kernel_rfl) (by kernel_rfl) (fun _ _ _ h => h) (Or.inl ⟨by rfl, ?_⟩) SF ?_
  rotate_left
  · intro W hSw
    have k0 := hSw.1.c0
    have k1 := hSw.1.c1
    have k2 := hSw.1.c2
    have k3 := hSw.1.c3
    have k4 := hSw.1.c4
    have k5 := hSw.1.c5
    have k6 := hSw.1.c6
    have k7 := hSw.1.c7
    have ka1 : W.cell? ⟨w.heap.size, 1, none⟩ = some (.int .i64 0) := row_cell hSw.2
    have ka2 : W.cell? ⟨w.heap.size, 2, none⟩ = some (.string a.t) := row_cell hSw.2
    go_simp
    try with_reducible rfl
  simp only [Act.put, List.setIfInBounds_toArray, List.set_cons_zero, List.set_cons_succ]
  refine wpAnyL_two (i := 7) (j := 11) (by kernel_rfl) ?_ ?_
  · refine wpOp_step (o := { dst := some 30, op := Op.call { callee := Callee.value (Operand.func 38), args := #[Operand.tmp 27, Operand.tmp 29], argTypes := #[53, 9] }, type := 72, pos := "l15_talk.go:93", after := #[{ on := 4, ground := Ground.data }, { on := 6, ground := Ground.data }], guard := none }) rfl fun K' hK => step_enterW (by rfl) 38 #[peA (.slice A0 z.x.q.length r0) z.x.s z.x.e (.slice B0 z.x.i.length r1), .string a.t] (by go_simp) ((unhide KS _ _ ((unhide HP).below hS0)).mono ?_)
    rintro e w4 ⟨r, rfl, pv, cq, fa, b⟩
    have s := bl_st b hS0
    have SG : _ ∧ _ := ⟨(unhide HR).below s, (s.block _ (Array.getElem?_eq_some_iff.1 (unhide HN)).1).trans (unhide HN)⟩
    have cq := cq (unhide KP)
    obtain ⟨X1, X2, X3, X4, hre⟩ := pv.slices
    subst hre
    have FRS : Hid (∀ b, b < w.heap.size → offP b (peA (.slice A0 z.x.q.length r0) z.x.s z.x.e (.slice B0 z.x.i.length r1)) → offP b (peA (.slice X1 y.q.length X2) y.s y.e (.slice X3 y.i.length X4))) := hide (fun b hb ho => offP_far fa ho (by have := unhide ZW; have := hS0.size; omega))
    clear b fa
    refine ⟨_, rfl, hK _ _ ⟨(fun _ => SG), ?_⟩⟩
    simp only [Act.put, List.setIfInBounds_toArray, List.set_cons_zero, List.set_cons_succ]
    refine wpAnyL_take (i := 8) (oi := { dst := some 22, op := Op.move (Operand.tmp 30), type := 72, pos := "l15_talk.go:93", after := #[{ on := 7, ground := Ground.data }], guard := none }) (v := ?_) rfl (by kernel_rfl) (by kernel_rfl) (by kernel_rfl) (by kernel_rfl) (fun _ _ _ h => h) (Or.inl ⟨by rfl, ?_⟩) SG ?_
    rotate_left
    · intro W hSw
      go_simp
      try with_reducible rfl
    simp only [Act.put, List.setIfInBounds_toArray, List.set_cons_zero, List.set_cons_succ]
    refine wpAnyL_take (i := 9) (oi := { dst := some 31, op := Op.extract (Operand.tmp 22) 0, type := 53, pos := "l15_talk.go:93", after := #[{ on := 8, ground := Ground.data }], guard := none }) (v := ?_) rfl (by kernel_rfl) (by kernel_rfl) (by kernel_rfl) (by kernel_rfl) (fun _ _ _ h => h) (Or.inl ⟨by rfl, ?_⟩) SG ?_
    rotate_left
    · intro W hSw
      go_simp
      try with_reducible rfl
    simp only [Act.put, List.setIfInBounds_toArray, List.set_cons_zero, List.set_cons_succ]
    refine wpAnyL_take (i := 10) (oi := { dst := some 32, op := Op.extract (Operand.tmp 22) 1, type := 3, pos := "l15_talk.go:93", after := #[{ on := 8, ground := Ground.data }, { on := 12, ground := Ground.gcOnly Departure.lateStores }], guard := none }) (v := ?_) rfl (by kernel_rfl) (by kernel_rfl) (by kernel_rfl) (by kernel_rfl) (fun _ _ _ h => h) (Or.inl ⟨by rfl, ?_⟩) SG ?_
    rotate_left
    · intro W hSw
      go_simp
      try with_reducible rfl
    simp only [Act.put, List.setIfInBounds_toArray, List.set_cons_zero, List.set_cons_succ]
    refine wpAnyL_one (i := 11) (by kernel_rfl) ?_
    refine wpOp_step (o := { dst := some 6, op := Op.alloc 53, type := 0, pos := "l15_talk.go:93", after := #[], guard := none }) rfl fun K' hK => step_valueW (by rfl) (.pointer (some ⟨w4.heap.size, 0, none⟩)) (w4.alloc (.cells ZC 53)) (by go_simp) ?_
    have sB : Below w1.heap.size w1 (w4.alloc (.cells ZC 53)) := bl_al s
    have SGB := (show _ ∧ _ from ⟨(unhide HR).below sB, (sB.block _ (Array.getElem?_eq_some_iff.1 (unhide HN)).1).trans (unhide HN)⟩)
    have hW := heap_alloc_new w4 (.cells ZC 53)
    have lW : w1.heap.size ≤ w4.heap.size := s.size
    have pvB := pv.below (bl_al (o := (.cells ZC 53)) (Below.refl w4.heap.size w4))
    refine hK _ _ ⟨(fun _ => SGB), ?_⟩
    simp only [Act.put, List.setIfInBounds_toArray, List.set_cons_zero, List.set_cons_succ]
    obtain ⟨gW, hgW⟩ : ∃ gW, gW = w4.heap.size := ⟨_, rfl⟩
    rw [← hgW] at hW lW ⊢
    clear hgW SG s pv
    have SG := SGB
    have s := sB
    have pv := pvB
    clear SGB sB pvB
    generalize w4.alloc (.cells ZC 53) = w4b at *
    have LW := lone_setRow gW w4b #[.slice X1 y.q.length X2, .int .i64 y.s, .int .i64 y.e, .slice X3 y.i.length X4]
    have zw := unhide ZW
    have SZ5 := hide (show (w4b.setRow gW #[.slice X1 y.q.length X2, .int .i64 y.s, .int .i64 y.e, .slice X3 y.i.length X4]).heap.size = w4b.heap.size from size_setRow _ _ _)
    have SH : _ ∧ _ := ⟨(SG.1).lone LW (by omega), (LW.block _ (by have := s.size; omega) (by omega)).trans SG.2⟩
    refine wpAnyL_one (i := 12) (by kernel_rfl) ?_
    refine wpOp_step (o := { dst := none, op := Op.store 53 (Operand.tmp 6) (Operand.tmp 31), type := 0, pos := "l15_talk.go:93", after := #[{ on := 11, ground := Ground.data }, { on := 9, ground := Ground.data }, { on := 7, ground := Ground.chain }, { on := 0, ground := Ground.phase }, { on := 1, ground := Ground.phase }, { on := 2, ground := Ground.phase }, { on := 3, ground := Ground.phase }, { on := 4, ground := Ground.phase }, { on := 5, ground := Ground.phase }, { on := 6, ground := Ground.phase }, { on := 7, ground := Ground.phase }, { on := 8, ground := Ground.phase }, { on := 9, ground := Ground.phase }, { on := 10, ground := Ground.textOnly Departure.lateStores }, { on := 11, ground := Ground.phase }], guard := none }) rfl fun K' hK => step_sRow (by rfl) 53 _ _ rfl gW #[.slice X1 y.q.length X2, .int .i64 y.s, .int .i64 y.e, .slice X3 y.i.length X4] rfl rfl 53 ZC hW (by kernel_rfl) rfl (by kernel_rfl) ?_
    refine hK _ _ ⟨(fun _ => SH), ?_⟩
    try simp only [Act.put]
    refine wpAnyL_one (i := 13) (by kernel_rfl) ?_
    refine wpOp_step (o := { dst := some 7, op := Op.assign (Operand.tmp 32), type := 3, pos := "l15_talk.go:93", after := #[{ on := 10, ground := Ground.data }, { on := 12, ground := Ground.chain }, { on := 0, ground := Ground.phase }, { on := 1, ground := Ground.phase }, { on := 2, ground := Ground.phase }, { on := 3, ground := Ground.phase }, { on := 4, ground := Ground.phase }, { on := 5, ground := Ground.phase }, { on := 6, ground := Ground.phase }, { on := 7, ground := Ground.phase }, { on := 8, ground := Ground.phase }, { on := 9, ground := Ground.phase }, { on := 10, ground := Ground.phase }, { on := 11, ground := Ground.phase }, { on := 12, ground := Ground.phase }], guard := none }) rfl fun K' hK => step_valueW (by rfl) (.int .i64 cd) (w4b.setRow gW #[.slice X1 y.q.length X2, .int .i64 y.s, .int .i64 y.e, .slice X3 y.i.length X4]) (by go_simp) ?_
    refine hK _ _ ⟨(fun _ => SH), ?_⟩
    simp only [Act.put, List.setIfInBounds_toArray, List.set_cons_zero, List.set_cons_succ]
    refine wpAnyL_done (by kernel_rfl) ?_ _
    have R5 := hide ((SG.1).lone LW (by omega))
    have B5 := hide (LW.below (bl_st s (unhide HB)) (by omega) (bl_st s (unhide HB)).size)
    have PN := hide (peV_lone8 pv LW (offP_row pv hW))
    have GW := hide (get_setRow (cs := #[.slice X1 y.q.length X2, .int .i64 y.s, .int .i64 y.e, .slice X3 y.i.length X4]) hW)
    have HQx := hide (peV_lone8 ((unhide HQ).below s) LW (unhide OY gW (by omega)))
    have N5 := hide ((LW.block _ (by have := s.size; omega) (by omega)).trans SG.2)
    have CQ := hide cq
    have HGW := hide (show gW < (w4b.setRow gW #[.slice X1 y.q.length X2, .int .i64 y.s, .int .i64 y.e, .slice X3 y.i.length X4]).heap.size by rw [size_setRow]; exact (Array.getElem?_eq_some_iff.1 hW).1)
    have LGW := hide lW
    clear LW hW pv cq SG SF SH hS0 s lW zw HR HN HB
    generalize w4b.setRow gW #[.slice X1 y.q.length X2, .int .i64 y.s, .int .i64 y.e, .slice X3 y.i.length X4] = w5 at *
    obtain ⟨_, x0, x1, x2, x3⟩ := pc_row (unhide GW)
    have ka1 : w5.cell? ⟨w.heap.size, 1, none⟩ = some (.int .i64 0) := row_cell (unhide N5)
    have E5 : Hid (w5.heap.size = w5.heap.size) := hide rfl
    go_wp2_with (first
      | (at_builtin; refine wpList_copy8 w5 rfl _ _ rfl w5.heap.size g c rfl (.slice A0 z.x.q.length r0) (.int .i64 z.x.s) (.int .i64 z.x.e) (.slice B0 z.x.i.length r1) (.slice A1 z.y.q.length r2) (.int .i64 z.y.s) (.int .i64 z.y.e) (.slice B1 z.y.i.length r3) rest rfl rfl (unhide R5) (by simp [Value.oneCell']) ?_
         intro g' c' w6 rs b6 row6 lg6 hc6
         have LN : Lone g' w6 ((((w6.setCell ⟨g', 0, none⟩ (.slice X1 y.q.length X2)).setCell ⟨g', 1, none⟩ (.int .i64 y.s)).setCell ⟨g', 2, none⟩ (.int .i64 y.e)).setCell ⟨g', 3, none⟩ (.slice X3 y.i.length X4)) := lone_put w6 g' 0 1 2 3 _ _ _ _
         have BF := hide (LN.below (bl_st b6 (unhide B5)) (by have := (unhide B5).size; omega) (bl_st b6 (unhide B5)).size)
         have PNx := hide (peV_lone8 ((unhide PN).below b6) LN (offP_old (unhide PN) lg6))
         have OTx := hide (peV_lone8 ((unhide HQx).below b6) LN (offP_old (unhide HQx) lg6))
         have RF := hide (row6.put0 (.slice X1 y.q.length X2) (.int .i64 y.s) (.int .i64 y.e) (.slice X3 y.i.length X4))
         have HC6 := hide hc6
         clear x0 x1 x2 x3 ka1
         obtain ⟨_, x0, x1, x2, x3⟩ := (pc_row (unhide GW)).below b6
         have ka1 : w6.cell? ⟨w.heap.size, 1, none⟩ = some (.int .i64 0) := row_cell ((b6.block _ (Array.getElem?_eq_some_iff.1 (unhide N5)).1).trans (unhide N5))
         have j0 := row6.c0
         have j1 := row6.c1
         have j2 := row6.c2
         have j3 := row6.c3
         have f0 := row6.fz 0
         have f1 := row6.fz 1
         have f2 := row6.fz 2
         have f3 := row6.fz 3
         clear LN row6 b6 lg6 hc6))
    go_ret2
    rw [unhide HF]
    refine ⟨_, rfl, ⟨g', c', _, _, _, _, rs, rfl, unhide HC6, unhide RF, unhide PNx, unhide CQ, unhide OTx, unhide KQ⟩, fun b hb ho => ?_, unhide BF⟩
    obtain ⟨t0, t3, t4, t7⟩ := unhide OT b ho
    obtain ⟨u0, u3⟩ := offP_parts (unhide FRS b hb ⟨_, _, _, _, rfl, t0, t3⟩)
    exact ⟨g', c', _, _, _, _, _, _, _, _, rs, rfl, unhide RF, u0, u3, t4, t7⟩
  · refine wpOp_step (o := { dst := some 6, op := Op.alloc 53, type := 0, pos := "l15_talk.go:93", after := #[], guard := none }) rfl fun K' hK => step_valueW (by rfl) (.pointer (some ⟨w1.heap.size, 0, none⟩)) ({ w1 with drawn := w1.drawn + 1 }.alloc (.cells ZC 53)) (by go_simp) ?_
    have bA : Below w1.heap.size w1 ({ w1 with drawn := w1.drawn + 1 }.alloc (.cells ZC 53)) := bl_al hS0
    have SFA := (show _ ∧ _ from ⟨(unhide HR).below bA, (bA.block _ (Array.getElem?_eq_some_iff.1 (unhide HN)).1).trans (unhide HN)⟩)
    have hW := heap_alloc_new { w1 with drawn := w1.drawn + 1 } (.cells ZC 53)
    have lW : w1.heap.size ≤ w1.heap.size := Nat.le_refl _
    refine hK _ _ ⟨(fun _ => SFA), ?_⟩
    simp only [Act.put, List.setIfInBounds_toArray, List.set_cons_zero, List.set_cons_succ]
    obtain ⟨gW, hgW⟩ : ∃ gW, gW = w1.heap.size := ⟨_, rfl⟩
    rw [show ({ w1 with drawn := w1.drawn + 1 } : World).heap.size = w1.heap.size from rfl, ← hgW] at hW
    have lW : w1.heap.size ≤ gW := by omega
    rw [← hgW]
    clear hgW SFA
    refine wpAnyL_one (i := 7) (by kernel_rfl) ?_
    refine wpOp_step (o := { dst := some 30, op := Op.call { callee := Callee.value (Operand.func 38), args := #[Operand.tmp 27, Operand.tmp 29], argTypes := #[53, 9] }, type := 72, pos := "l15_talk.go:93", after := #[{ on := 4, ground := Ground.data }, { on := 6, ground := Ground.data }], guard := none }) rfl fun K' hK => step_enterW (by rfl) 38 #[peA (.slice A0 z.x.q.length r0) z.x.s z.x.e (.slice B0 z.x.i.length r1), .string a.t] (by go_simp) ((unhide KS _ _ ((unhide HP).below bA)).mono ?_)
    rintro e w4 ⟨r, rfl, pv, cq, fa, b⟩
    have s := bl_st b bA
    have SG : _ ∧ _ := ⟨(unhide HR).below s, (s.block _ (Array.getElem?_eq_some_iff.1 (unhide HN)).1).trans (unhide HN)⟩
    have cq := cq (unhide KP)
    obtain ⟨X1, X2, X3, X4, hre⟩ := pv.slices
    subst hre
    have FRS : Hid (∀ b, b < w.heap.size → offP b (peA (.slice A0 z.x.q.length r0) z.x.s z.x.e (.slice B0 z.x.i.length r1)) → offP b (peA (.slice X1 y.q.length X2) y.s y.e (.slice X3 y.i.length X4))) := hide (fun b hb ho => offP_far fa ho (by have := unhide ZW; have := bA.size; omega))
    have hW := (b.block _ (Array.getElem?_eq_some_iff.1 hW).1).trans hW
    clear b fa
    refine ⟨_, rfl, hK _ _ ⟨(fun _ => SG), ?_⟩⟩
    simp only [Act.put, List.setIfInBounds_toArray, List.set_cons_zero, List.set_cons_succ]
    refine wpAnyL_take (i := 8) (oi := { dst := some 22, op := Op.move (Operand.tmp 30), type := 72, pos := "l15_talk.go:93", after := #[{ on := 7, ground := Ground.data }], guard := none }) (v := ?_) rfl (by kernel_rfl) (by kernel_rfl) (by kernel_rfl) (by kernel_rfl) (fun _ _ _ h => h) (Or.inl ⟨by rfl, ?_⟩) SG ?_
    rotate_left
    · intro W hSw
      go_simp
      try with_reducible rfl
    simp only [Act.put, List.setIfInBounds_toArray, List.set_cons_zero, List.set_cons_succ]
    refine wpAnyL_take (i := 9) (oi := { dst := some 31, op := Op.extract (Operand.tmp 22) 0, type := 53, pos := "l15_talk.go:93", after := #[{ on := 8, ground := Ground.data }], guard := none }) (v := ?_) rfl (by kernel_rfl) (by kernel_rfl) (by kernel_rfl) (by kernel_rfl) (fun _ _ _ h => h) (Or.inl ⟨by rfl, ?_⟩) SG ?_
    rotate_left
    · intro W hSw
      go_simp
      try with_reducible rfl
    simp only [Act.put, List.setIfInBounds_toArray, List.set_cons_zero, List.set_cons_succ]
    refine wpAnyL_take (i := 10) (oi := { dst := some 32, op := Op.extract (Operand.tmp 22) 1, type := 3, pos := "l15_talk.go:93", after := #[{ on := 8, ground := Ground.data }, { on := 12, ground := Ground.gcOnly Departure.lateStores }], guard := none }) (v := ?_) rfl (by kernel_rfl) (by kernel_rfl) (by kernel_rfl) (by kernel_rfl) (fun _ _ _ h => h) (Or.inl ⟨by rfl, ?_⟩) SG ?_
    rotate_left
    · intro W hSw
      go_simp
      try with_reducible rfl
    simp only [Act.put, List.setIfInBounds_toArray, List.set_cons_zero, List.set_cons_succ]
    have LW := lone_setRow gW w4 #[.slice X1 y.q.length X2, .int .i64 y.s, .int .i64 y.e, .slice X3 y.i.length X4]
    have zw := unhide ZW
    have SZ5 := hide (show (w4.setRow gW #[.slice X1 y.q.length X2, .int .i64 y.s, .int .i64 y.e, .slice X3 y.i.length X4]).heap.size = w4.heap.size from size_setRow _ _ _)
    have SH : _ ∧ _ := ⟨(SG.1).lone LW (by omega), (LW.block _ (by have := s.size; omega) (by omega)).trans SG.2⟩
    refine wpAnyL_one (i := 12) (by kernel_rfl) ?_
    refine wpOp_step (o := { dst := none, op := Op.store 53 (Operand.tmp 6) (Operand.tmp 31), type := 0, pos := "l15_talk.go:93", after := #[{ on := 11, ground := Ground.data }, { on := 9, ground := Ground.data }, { on := 7, ground := Ground.chain }, { on := 0, ground := Ground.phase }, { on := 1, ground := Ground.phase }, { on := 2, ground := Ground.phase }, { on := 3, ground := Ground.phase }, { on := 4, ground := Ground.phase }, { on := 5, ground := Ground.phase }, { on := 6, ground := Ground.phase }, { on := 7, ground := Ground.phase }, { on := 8, ground := Ground.phase }, { on := 9, ground := Ground.phase }, { on := 10, ground := Ground.textOnly Departure.lateStores }, { on := 11, ground := Ground.phase }], guard := none }) rfl fun K' hK => step_sRow (by rfl) 53 _ _ rfl gW #[.slice X1 y.q.length X2, .int .i64 y.s, .int .i64 y.e, .slice X3 y.i.length X4] rfl rfl 53 ZC hW (by kernel_rfl) rfl (by kernel_rfl) ?_
    refine hK _ _ ⟨(fun _ => SH), ?_⟩
    try simp only [Act.put]
    refine wpAnyL_one (i := 13) (by kernel_rfl) ?_
    refine wpOp_step (o := { dst := some 7, op := Op.assign (Operand.tmp 32), type := 3, pos := "l15_talk.go:93", after := #[{ on := 10, ground := Ground.data }, { on := 12, ground := Ground.chain }, { on := 0, ground := Ground.phase }, { on := 1, ground := Ground.phase }, { on := 2, ground := Ground.phase }, { on := 3, ground := Ground.phase }, { on := 4, ground := Ground.phase }, { on := 5, ground := Ground.phase }, { on := 6, ground := Ground.phase }, { on := 7, ground := Ground.phase }, { on := 8, ground := Ground.phase }, { on := 9, ground := Ground.phase }, { on := 10, ground := Ground.phase }, { on := 11, ground := Ground.phase }, { on := 12, ground := Ground.phase }], guard := none }) rfl fun K' hK => step_valueW (by rfl) (.int .i64 cd) (w4.setRow gW #[.slice X1 y.q.length X2, .int .i64 y.s, .int .i64 y.e, .slice X3 y.i.length X4]) (by go_simp) ?_
    refine hK _ _ ⟨(fun _ => SH), ?_⟩
    simp only [Act.put, List.setIfInBounds_toArray, List.set_cons_zero, List.set_cons_succ]
    refine wpAnyL_done (by kernel_rfl) ?_ _
    have R5 := hide ((SG.1).lone LW (by omega))
    have B5 := hide (LW.below (bl_st s (unhide HB)) (by omega) (bl_st s (unhide HB)).size)
    have PN := hide (peV_lone8 pv LW (offP_row pv hW))
    have GW := hide (get_setRow (cs := #[.slice X1 y.q.length X2, .int .i64 y.s, .int .i64 y.e, .slice X3 y.i.length X4]) hW)
    have HQx := hide (peV_lone8 ((unhide HQ).below s) LW (unhide OY gW (by omega)))
    have N5 := hide ((LW.block _ (by have := s.size; omega) (by omega)).trans SG.2)
    have CQ := hide cq
    have HGW := hide (show gW < (w4.setRow gW #[.slice X1 y.q.length X2, .int .i64 y.s, .int .i64 y.e, .slice X3 y.i.length X4]).heap.size by rw [size_setRow]; exact (Array.getElem?_eq_some_iff.1 hW).1)
    have LGW := hide lW
    clear LW hW pv cq SG SF SH hS0 s lW zw HR HN HB
    generalize w4.setRow gW #[.slice X1 y.q.length X2, .int .i64 y.s, .int .i64 y.e, .slice X3 y.i.length X4] = w5 at *
    obtain ⟨_, x0, x1, x2, x3⟩ := pc_row (unhide GW)
    have ka1 : w5.cell? ⟨w.heap.size, 1, none⟩ = some (.int .i64 0) := row_cell (unhide N5)
    have E5 : Hid (w5.heap.size = w5.heap.size) := hide rfl
    go_wp2_with (first
      | (at_builtin; refine wpList_copy8 w5 rfl _ _ rfl w5.heap.size g c rfl (.slice A0 z.x.q.length r0) (.int .i64 z.x.s) (.int .i64 z.x.e) (.slice B0 z.x.i.length r1) (.slice A1 z.y.q.length r2) (.int .i64 z.y.s) (.int .i64 z.y.e) (.slice B1 z.y.i.length r3) rest rfl rfl (unhide R5) (by simp [Value.oneCell']) ?_
         intro g' c' w6 rs b6 row6 lg6 hc6
         have LN : Lone g' w6 ((((w6.setCell ⟨g', 0, none⟩ (.slice X1 y.q.length X2)).setCell ⟨g', 1, none⟩ (.int .i64 y.s)).setCell ⟨g', 2, none⟩ (.int .i64 y.e)).setCell ⟨g', 3, none⟩ (.slice X3 y.i.length X4)) := lone_put w6 g' 0 1 2 3 _ _ _ _
         have BF := hide (LN.below (bl_st b6 (unhide B5)) (by have := (unhide B5).size; omega) (bl_st b6 (unhide B5)).size)
         have PNx := hide (peV_lone8 ((unhide PN).below b6) LN (offP_old (unhide PN) lg6))
         have OTx := hide (peV_lone8 ((unhide HQx).below b6) LN (offP_old (unhide HQx) lg6))
         have RF := hide (row6.put0 (.slice X1 y.q.length X2) (.int .i64 y.s) (.int .i64 y.e) (.slice X3 y.i.length X4))
         have HC6 := hide hc6
         clear x0 x1 x2 x3 ka1
         obtain ⟨_, x0, x1, x2, x3⟩ := (pc_row (unhide GW)).below b6
         have ka1 : w6.cell? ⟨w.heap.size, 1, none⟩ = some (.int .i64 0) := row_cell ((b6.block _ (Array.getElem?_eq_some_iff.1 (unhide N5)).1).trans (unhide N5))
         have j0 := row6.c0
         have j1 := row6.c1
         have j2 := row6.c2
         have j3 := row6.c3
         have f0 := row6.fz 0
         have f1 := row6.fz 1
         have f2 := row6.fz 2
         have f3 := row6.fz 3
         clear LN row6 b6 lg6 hc6))
    go_ret2
    rw [unhide HF]
    refine ⟨_, rfl, ⟨g', c', _, _, _, _, rs, rfl, unhide HC6, unhide RF, unhide PNx, unhide CQ, unhide OTx, unhide KQ⟩, fun b hb ho => ?_, unhide BF⟩
    obtain ⟨t0, t3, t4, t7⟩ := unhide OT b ho
    obtain ⟨u0, u3⟩ := offP_parts (unhide FRS b hb ⟨_, _, _, _, rfl, t0, t3⟩)
    exact ⟨g', c', _, _, _, _, _, _, _, _, rs, rfl, unhide RF, u0, u3, t4, t7⟩
theorem step_say1 (v : Value) (z : Tw) (a : Ta) (w : World) (hv : twV w v z) (hx : peFew z.x) (hy : peFew z.y) (ht : a.t.size ≤ maxLen) (sx : 0 ≤ z.x.s ∧ z.x.s ≤ 1048576) (ex : 0 ≤ z.x.e ∧ z.x.e ≤ 1048576) (sy : 0 ≤ z.y.s ∧ z.y.s ≤ 1048576) (ey : 0 ≤ z.y.e ∧ z.y.e ≤ 1048576) (h1 : a.k = 1) (hw : a.w = 1) :
    Calls Tryz.prog 22 #[v, taV a] w fun e w' => ∃ r, e = .returned (.tuple #[r, .int .i64 (stepF z a).2]) ∧ twV w' r (stepF z a).1 ∧ (∀ b, b < w.heap.size → offT b w v → offT b w' r) ∧ Below w.heap.size w w' := by
  obtain ⟨g, c, q0, i0, q1, i1, rest, rfl, hc, hr, hp, kp, hq, kq⟩ := hv
  obtain ⟨A0, r0, B0, r1, e0⟩ := hp.slices
  obtain ⟨A1, r2, B1, r3, e1⟩ := hq.slices
  have e00 : q0 = .slice A0 z.x.q.length r0 ∧ i0 = .slice B0 z.x.i.length r1 := peA_inj e0
  have e11 : q1 = .slice A1 z.y.q.length r2 ∧ i1 = .slice B1 z.y.i.length r3 := peA_inj e1
  obtain ⟨rfl, rfl⟩ := e00
  obtain ⟨rfl, rfl⟩ := e11
  clear e0 e1
  have B1w : Below w.heap.size w (w.alloc (.cells #[.int .i64 a.k, .int .i64 a.w, .string a.t, .bool a.la, .bool a.lb] 27)) := bl_al (Below.refl _ _)
  have HB := hide B1w
  have HR := hide (hr.below B1w)
  have HP := hide (hp.below B1w)
  have HQ := hide (hq.below B1w)
  have KP := hide kp
  have KQ := hide kq
  have HN := hide (heap_alloc_new w (.cells #[.int .i64 a.k, .int .i64 a.w, .string a.t, .bool a.la, .bool a.lb] 27))
  have HCC := hide hc
  have VV : Hid (twV (w.alloc (.cells #[.int .i64 a.k, .int .i64 a.w, .string a.t, .bool a.la, .bool a.lb] 27)) (.slice (some ⟨g, 0, none⟩) 2 c) z) := hide ⟨g, c, _, _, _, _, rest, rfl, hc, hr.below B1w, hp.below B1w, kp, hq.below B1w, kq⟩
  have OT := hide (fun b (ho : offT b w (.slice (some ⟨g, 0, none⟩) 2 c)) => ho.row hr)
  show Calls Tryz.prog 22 #[.slice (some ⟨g, 0, none⟩) 2 c, taA a.k a.w a.t a.la a.lb] w _
  have gl := hr.lt
  have HF := hide (show stepF z a = (⟨z.x, (sayF z.y a.t).1⟩, (sayF z.y a.t).2) by unfold stepF; rw [if_pos h1, hw, if_pos (by decide)]; rfl)
  have KI := hide (fun W => in56 1 0 1 W)
  rw [show (decide ((0 : Int) ≤ 1) && decide ((1 : Int) ≤ 1)) = true from by decide] at KI
  have KS := hide (fun u W (h : peV W u z.y) => say60 u z.y a.t W h hy ht)
  have OX := hide (fun b (hb : w.heap.size ≤ b) => offP_old hp hb)
  have OY := hide (fun b (hb : w.heap.size ≤ b) => offP_old hq hb)
  have ZW : Hid (g < w.heap.size ∧ (w.alloc (.cells #[.int .i64 a.k, .int .i64 a.w, .string a.t, .bool a.la, .bool a.lb] 27)).heap.size = w.heap.size + 1) := hide ⟨gl, by simp⟩
  generalize hss : sayF z.y a.t = ss at *
  obtain ⟨y, cd⟩ := ss
  dsimp only at *
  rw [h1, hw] at *
  have k0 := (unhide HR).c0
  have k1 := (unhide HR).c1
  have k2 := (unhide HR).c2
  have k3 := (unhide HR).c3
  have k4 := (unhide HR).c4
  have k5 := (unhide HR).c5
  have k6 := (unhide HR).c6
  have k7 := (unhide HR).c7
  clear hr hp hq kp kq B1w hx hy sx ex sy ey ht hw h1 hss VV gl hc
  go_enter Tryz.func22, Tryz.ntmps22
  go_wp2_with fail
  generalize hw1 : w.alloc (.cells #[.int .i64 1, .int .i64 1, .string a.t, .bool a.la, .bool a.lb] 27) = w1 at *
  clear hw1
  refine (unhide KI w1).mono ?_
  rintro e1 w1' ⟨rfl, hw⟩
  have hw2 := hw.symm
  subst hw2
  clear hw KI
  have ka1 : w1.cell? ⟨w.heap.size, 1, none⟩ = some (.int .i64 1) := row_cell (unhide HN)
  have ka2 : w1.cell? ⟨w.heap.size, 2, none⟩ = some (.string a.t) := row_cell (unhide HN)
  go_wp2
  refine wp_region_late (S := fun W' => row8 W' g (.slice A0 z.x.q.length r0) (.int .i64 z.x.s) (.int .i64 z.x.e) (.slice B0 z.x.i.length r1) (.slice A1 z.y.q.length r2) (.int .i64 z.y.s) (.int .i64 z.y.e) (.slice B1 z.y.i.length r3) rest ∧ W'.heap[w.heap.size]? = some (.cells #[.int .i64 1, .int .i64 1, .string a.t, .bool a.la, .bool a.lb] 27 (0, 0))) (late := []) (by kernel_rfl) ?_
  have hS0 : Below w1.heap.size w1 { w1 with drawn := w1.drawn + 1 } := below_drewN (Below.refl _ _) 1
  have SF : _ ∧ _ := ⟨(unhide HR).below hS0, (hS0.block _ (Array.getElem?_eq_some_iff.1 (unhide HN)).1).trans (unhide HN)⟩
  clear k0 k1 k2 k3 k4 k5 k6 k7 ka1 ka2
  refine wpAnyL_take (i := 0) (oi := { dst := some 23, op := Op.move (Operand.tmp 0), type := 41, pos := "l15_talk.go:93", after := #[], guard := none }) (v := ?_) rfl (by kernel_rfl) (by kernel_rfl) (by kernel_rfl) (by kernel_rfl) (fun _ _ _ h => h) (Or.inl ⟨by rfl, ?_⟩) SF ?_
  rotate_left
  · intro W hSw
    have k0 := hSw.1.c0
    have k1 := hSw.1.c1
    have k2 := hSw.1.c2
    have k3 := hSw.1.c3
    have k4 := hSw.1.c4
    have k5 := hSw.1.c5
    have k6 := hSw.1.c6
    have k7 := hSw.1.c7
    have ka1 : W.cell? ⟨w.heap.size, 1, none⟩ = some (.int .i64 1) := row_cell hSw.2
    have ka2 : W.cell? ⟨w.heap.size, 2, none⟩ = some (.string a.t) := row_cell hSw.2
    go_simp
    try with_reducible rfl
  simp only [Act.put, List.setIfInBounds_toArray, List.set_cons_zero, List.set_cons_succ]
  refine wpAnyL_take (i := 1) (oi := { dst := some 24, op := Op.fieldAddr 27 (Operand.tmp 3) 1, type := 0, pos := "l15_talk.go:93", after := #[], guard := none }) (v := ?_) rfl (by kernel_rfl) (by kernel_rfl) (by kernel_rfl) (by kernel_rfl) (fun _ _ _ h => h) (Or.inl ⟨by rfl, ?_⟩) SF ?_
  rotate_left
  · intro W hSw
    have k0 := hSw.1.c0
    have k1 := hSw.1.c1
    have k2 := hSw.1.c2
    have k3 := hSw.1.c3
    have k4 := hSw.1.c4
    have k5 := hSw.1.c5
    have k6 := hSw.1.c6
    have k7 := hSw.1.c7
    have ka1 : W.cell? ⟨w.heap.size, 1, none⟩ = some (.int .i64 1) := row_cell hSw.2
    have ka2 : W.cell? ⟨w.heap.size, 2, none⟩ = some (.string a.t) := row_cell hSw.2
    go_simp
    try with_reducible rfl
  simp only [Act.put, List.setIfInBounds_toArray, List.set_cons_zero, List.set_cons_succ]
  refine wpAnyL_take (i := 2) (oi := { dst := some 25, op := Op.load 3 (Operand.tmp 24), type := 3, pos := "l15_talk.go:93", after := #[{ on := 1, ground := Ground.data }], guard := none }) (v := ?_) rfl (by kernel_rfl) (by kernel_rfl) (by kernel_rfl) (by kernel_rfl) (fun _ _ _ h => h) (Or.inl ⟨by rfl, ?_⟩) SF ?_
  rotate_left
  · intro W hSw
    have k0 := hSw.1.c0
    have k1 := hSw.1.c1
    have k2 := hSw.1.c2
    have k3 := hSw.1.c3
    have k4 := hSw.1.c4
    have k5 := hSw.1.c5
    have k6 := hSw.1.c6
    have k7 := hSw.1.c7
    have ka1 : W.cell? ⟨w.heap.size, 1, none⟩ = some (.int .i64 1) := row_cell hSw.2
    have ka2 : W.cell? ⟨w.heap.size, 2, none⟩ = some (.string a.t) := row_cell hSw.2
    go_simp
    try with_reducible rfl
  simp only [Act.put, List.setIfInBounds_toArray, List.set_cons_zero, List.set_cons_succ]
  refine wpAnyL_take (i := 3) (oi := { dst := some 26, op := Op.indexAddr 41 (Operand.tmp 23) (Operand.tmp 25), type := 0, pos := "l15_talk.go:93", after := #[{ on := 0, ground := Ground.data }, { on := 2, ground := Ground.data }], guard := none }) (v := ?_) rfl (by kernel_rfl) (by kernel_rfl) (by kernel_rfl) (by kernel_rfl) (fun _ _ _ h => h) (Or.inl ⟨by rfl, ?_⟩) SF ?_
  rotate_left
  · intro W hSw
    have k0 := hSw.1.c0
    have k1 := hSw.1.c1
    have k2 := hSw.1.c2
    have k3 := hSw.1.c3
    have k4 := hSw.1.c4
    have k5 := hSw.1.c5
    have k6 := hSw.1.c6
    have k7 := hSw.1.c7
    have ka1 : W.cell? ⟨w.heap.size, 1, none⟩ = some (.int .i64 1) := row_cell hSw.2
    have ka2 : W.cell? ⟨w.heap.size, 2, none⟩ = some (.string a.t) := row_cell hSw.2
    go_simp
    try with_reducible rfl
  simp only [Act.put, List.setIfInBounds_toArray, List.set_cons_zero, List.set_cons_succ]
  refine wpAnyL_take (i := 4) (oi := { dst := some 27, op := Op.load 53 (Operand.tmp 26), type := 53, pos := "l15_talk.go:93", after := #[{ on := 3, ground := Ground.data }], guard := none }) (v := ?_) rfl (by kernel_rfl) (by kernel_rfl) (by kernel_rfl) (by kernel_rfl) (fun _ _ _ h => h) (Or.inl ⟨by rfl, ?_⟩) SF ?_
  rotate_left
  · intro W hSw
    have k0 := hSw.1.c0
    have k1 := hSw.1.c1
    have k2 := hSw.1.c2
    have k3 := hSw.1.c3
    have k4 := hSw.1.c4
    have k5 := hSw.1.c5
    have k6 := hSw.1.c6
    have k7 := hSw.1.c7
    have ka1 : W.cell? ⟨w.heap.size, 1, none⟩ = some (.int .i64 1) := row_cell hSw.2
    have ka2 : W.cell? ⟨w.heap.size, 2, none⟩ = some (.string a.t) := row_cell hSw.2
    go_simp
    try with_reducible rfl
  simp only [Act.put, List.setIfInBounds_toArray, List.set_cons_zero, List.set_cons_succ]
  refine wpAnyL_take (i := 5) (oi := { dst := some 28, op := Op.fieldAddr 27 (Operand.tmp 3) 2, type := 0, pos := "l15_talk.go:93", after := #[], guard := none }) (v := ?_) rfl (by kernel_rfl) (by kernel_rfl) (by kernel_rfl) (by kernel_rfl) (fun _ _ _ h => h) (Or.inl ⟨by rfl, ?_⟩) SF ?_
  rotate_left
  · intro W hSw
    have k0 := hSw.1.c0
    have k1 := hSw.1.c1
    have k2 := hSw.1.c2
    have k3 := hSw.1.c3
    have k4 := hSw.1.c4
    have k5 := hSw.1.c5
    have k6 := hSw.1.c6
    have k7 := hSw.1.c7
    have ka1 : W.cell? ⟨w.heap.size, 1, none⟩ = some (.int .i64 1) := row_cell hSw.2
    have ka2 : W.cell? ⟨w.heap.size, 2, none⟩ = some (.string a.t) := row_cell hSw.2
    go_simp
    try with_reducible rfl
  simp only [Act.put, List.setIfInBounds_toArray, List.set_cons_zero, List.set_cons_succ]
  refine wpAnyL_take (i := 6) (oi := { dst := some 29, op := Op.load 9 (Operand.tmp 28), type := 9, pos := "l15_talk.go:93", after := #[{ on := 5, ground := Ground.data }], guard := none }) (v := ?_) rfl (by kernel_rfl) (by kernel_rfl) (by kernel_rfl) (by kernel_rfl) (fun _ _ _ h => h) (Or.inl ⟨by rfl, ?_⟩) SF ?_
  rotate_left
  · intro W hSw
    have k0 := hSw.1.c0
    have k1 := hSw.1.c1
    have k2 := hSw.1.c2
    have k3 := hSw.1.c3
    have k4 := hSw.1.c4
    have k5 := hSw.1.c5
    have k6 := hSw.1.c6
    have k7 := hSw.1.c7
    have ka1 : W.cell? ⟨w.heap.size, 1, none⟩ = some (.int .i64 1) := row_cell hSw.2
    have ka2 : W.cell? ⟨w.heap.size, 2, none⟩ = some (.string a.t) := row_cell hSw.2
    go_simp
    try with_reducible rfl
  simp only [Act.put, List.setIfInBounds_toArray, List.set_cons_zero, List.set_cons_succ]
  refine wpAnyL_two (i := 7) (j := 11) (by kernel_rfl) ?_ ?_
  · refine wpOp_step (o := { dst := some 30, op := Op.call { callee := Callee.value (Operand.func 38), args := #[Operand.tmp 27, Operand.tmp 29], argTypes := #[53, 9] }, type := 72, pos := "l15_talk.go:93", after := #[{ on := 4, ground := Ground.data }, { on := 6, ground := Ground.data }], guard := none }) rfl fun K' hK => step_enterW (by rfl) 38 #[peA (.slice A1 z.y.q.length r2) z.y.s z.y.e (.slice B1 z.y.i.length r3), .string a.t] (by go_simp) ((unhide KS _ _ ((unhide HQ).below hS0)).mono ?_)
    rintro e w4 ⟨r, rfl, pv, cq, fa, b⟩
    have s := bl_st b hS0
    have SG : _ ∧ _ := ⟨(unhide HR).below s, (s.block _ (Array.getElem?_eq_some_iff.1 (unhide HN)).1).trans (unhide HN)⟩
    have cq := cq (unhide KQ)
    obtain ⟨X1, X2, X3, X4, hre⟩ := pv.slices
    subst hre
    have FRS : Hid (∀ b, b < w.heap.size → offP b (peA (.slice A1 z.y.q.length r2) z.y.s z.y.e (.slice B1 z.y.i.length r3)) → offP b (peA (.slice X1 y.q.length X2) y.s y.e (.slice X3 y.i.length X4))) := hide (fun b hb ho => offP_far fa ho (by have := unhide ZW; have := hS0.size; omega))
    clear b fa
    refine ⟨_, rfl, hK _ _ ⟨(fun _ => SG), ?_⟩⟩
    simp only [Act.put, List.setIfInBounds_toArray, List.set_cons_zero, List.set_cons_succ]
    refine wpAnyL_take (i := 8) (oi := { dst := some 22, op := Op.move (Operand.tmp 30), type := 72, pos := "l15_talk.go:93", after := #[{ on := 7, ground := Ground.data }], guard := none }) (v := ?_) rfl (by kernel_rfl) (by kernel_rfl) (by kernel_rfl) (by kernel_rfl) (fun _ _ _ h => h) (Or.inl ⟨by rfl, ?_⟩) SG ?_
    rotate_left
    · intro W hSw
      go_simp
      try with_reducible rfl
    simp only [Act.put, List.setIfInBounds_toArray, List.set_cons_zero, List.set_cons_succ]
    refine wpAnyL_take (i := 9) (oi := { dst := some 31, op := Op.extract (Operand.tmp 22) 0, type := 53, pos := "l15_talk.go:93", after := #[{ on := 8, ground := Ground.data }], guard := none }) (v := ?_) rfl (by kernel_rfl) (by kernel_rfl) (by kernel_rfl) (by kernel_rfl) (fun _ _ _ h => h) (Or.inl ⟨by rfl, ?_⟩) SG ?_
    rotate_left
    · intro W hSw
      go_simp
      try with_reducible rfl
    simp only [Act.put, List.setIfInBounds_toArray, List.set_cons_zero, List.set_cons_succ]
    refine wpAnyL_take (i := 10) (oi := { dst := some 32, op := Op.extract (Operand.tmp 22) 1, type := 3, pos := "l15_talk.go:93", after := #[{ on := 8, ground := Ground.data }, { on := 12, ground := Ground.gcOnly Departure.lateStores }], guard := none }) (v := ?_) rfl (by kernel_rfl) (by kernel_rfl) (by kernel_rfl) (by kernel_rfl) (fun _ _ _ h => h) (Or.inl ⟨by rfl, ?_⟩) SG ?_
    rotate_left
    · intro W hSw
      go_simp
      try with_reducible rfl
    simp only [Act.put, List.setIfInBounds_toArray, List.set_cons_zero, List.set_cons_succ]
    refine wpAnyL_one (i := 11) (by kernel_rfl) ?_
    refine wpOp_step (o := { dst := some 6, op := Op.alloc 53, type := 0, pos := "l15_talk.go:93", after := #[], guard := none }) rfl fun K' hK => step_valueW (by rfl) (.pointer (some ⟨w4.heap.size, 0, none⟩)) (w4.alloc (.cells ZC 53)) (by go_simp) ?_
    have sB : Below w1.heap.size w1 (w4.alloc (.cells ZC 53)) := bl_al s
    have SGB := (show _ ∧ _ from ⟨(unhide HR).below sB, (sB.block _ (Array.getElem?_eq_some_iff.1 (unhide HN)).1).trans (unhide HN)⟩)
    have hW := heap_alloc_new w4 (.cells ZC 53)
    have lW : w1.heap.size ≤ w4.heap.size := s.size
    have pvB := pv.below (bl_al (o := (.cells ZC 53)) (Below.refl w4.heap.size w4))
    refine hK _ _ ⟨(fun _ => SGB), ?_⟩
    simp only [Act.put, List.setIfInBounds_toArray, List.set_cons_zero, List.set_cons_succ]
    obtain ⟨gW, hgW⟩ : ∃ gW, gW = w4.heap.size := ⟨_, rfl⟩
    rw [← hgW] at hW lW ⊢
    clear hgW SG s pv
    have SG := SGB
    have s := sB
    have pv := pvB
    clear SGB sB pvB
    generalize w4.alloc (.cells ZC 53) = w4b at *
    have LW := lone_setRow gW w4b #[.slice X1 y.q.length X2, .int .i64 y.s, .int .i64 y.e, .slice X3 y.i.length X4]
    have zw := unhide ZW
    have SZ5 := hide (show (w4b.setRow gW #[.slice X1 y.q.length X2, .int .i64 y.s, .int .i64 y.e, .slice X3 y.i.length X4]).heap.size = w4b.heap.size from size_setRow _ _ _)
    have SH : _ ∧ _ := ⟨(SG.1).lone LW (by omega), (LW.block _ (by have := s.size; omega) (by omega)).trans SG.2⟩
    refine wpAnyL_one (i := 12) (by kernel_rfl) ?_
    refine wpOp_step (o := { dst := none, op := Op.store 53 (Operand.tmp 6) (Operand.tmp 31), type := 0, pos := "l15_talk.go:93", after := #[{ on := 11, ground := Ground.data }, { on := 9, ground := Ground.data }, { on := 7, ground := Ground.chain }, { on := 0, ground := Ground.phase }, { on := 1, ground := Ground.phase }, { on := 2, ground := Ground.phase }, { on := 3, ground := Ground.phase }, { on := 4, ground := Ground.phase }, { on := 5, ground := Ground.phase }, { on := 6, ground := Ground.phase }, { on := 7, ground := Ground.phase }, { on := 8, ground := Ground.phase }, { on := 9, ground := Ground.phase }, { on := 10, ground := Ground.textOnly Departure.lateStores }, { on := 11, ground := Ground.phase }], guard := none }) rfl fun K' hK => step_sRow (by rfl) 53 _ _ rfl gW #[.slice X1 y.q.length X2, .int .i64 y.s, .int .i64 y.e, .slice X3 y.i.length X4] rfl rfl 53 ZC hW (by kernel_rfl) rfl (by kernel_rfl) ?_
    refine hK _ _ ⟨(fun _ => SH), ?_⟩
    try simp only [Act.put]
    refine wpAnyL_one (i := 13) (by kernel_rfl) ?_
    refine wpOp_step (o := { dst := some 7, op := Op.assign (Operand.tmp 32), type := 3, pos := "l15_talk.go:93", after := #[{ on := 10, ground := Ground.data }, { on := 12, ground := Ground.chain }, { on := 0, ground := Ground.phase }, { on := 1, ground := Ground.phase }, { on := 2, ground := Ground.phase }, { on := 3, ground := Ground.phase }, { on := 4, ground := Ground.phase }, { on := 5, ground := Ground.phase }, { on := 6, ground := Ground.phase }, { on := 7, ground := Ground.phase }, { on := 8, ground := Ground.phase }, { on := 9, ground := Ground.phase }, { on := 10, ground := Ground.phase }, { on := 11, ground := Ground.phase }, { on := 12, ground := Ground.phase }], guard := none }) rfl fun K' hK => step_valueW (by rfl) (.int .i64 cd) (w4b.setRow gW #[.slice X1 y.q.length X2, .int .i64 y.s, .int .i64 y.e, .slice X3 y.i.length X4]) (by go_simp) ?_
    refine hK _ _ ⟨(fun _ => SH), ?_⟩
    simp only [Act.put, List.setIfInBounds_toArray, List.set_cons_zero, List.set_cons_succ]
    refine wpAnyL_done (by kernel_rfl) ?_ _
    have R5 := hide ((SG.1).lone LW (by omega))
    have B5 := hide (LW.below (bl_st s (unhide HB)) (by omega) (bl_st s (unhide HB)).size)
    have PN := hide (peV_lone8 pv LW (offP_row pv hW))
    have GW := hide (get_setRow (cs := #[.slice X1 y.q.length X2, .int .i64 y.s, .int .i64 y.e, .slice X3 y.i.length X4]) hW)
    have HPx := hide (peV_lone8 ((unhide HP).below s) LW (unhide OX gW (by omega)))
    have N5 := hide ((LW.block _ (by have := s.size; omega) (by omega)).trans SG.2)
    have CQ := hide cq
    have HGW := hide (show gW < (w4b.setRow gW #[.slice X1 y.q.length X2, .int .i64 y.s, .int .i64 y.e, .slice X3 y.i.length X4]).heap.size by rw [size_setRow]; exact (Array.getElem?_eq_some_iff.1 hW).1)
    have LGW := hide lW
    clear LW hW pv cq SG SF SH hS0 s lW zw HR HN HB
    generalize w4b.setRow gW #[.slice X1 y.q.length X2, .int .i64 y.s, .int .i64 y.e, .slice X3 y.i.length X4] = w5 at *
    obtain ⟨_, x0, x1, x2, x3⟩ := pc_row (unhide GW)
    have ka1 : w5.cell? ⟨w.heap.size, 1, none⟩ = some (.int .i64 1) := row_cell (unhide N5)
    have E5 : Hid (w5.heap.size = w5.heap.size) := hide rfl
    go_wp2_with (first
      | (at_builtin; refine wpList_copy8 w5 rfl _ _ rfl w5.heap.size g c rfl (.slice A0 z.x.q.length r0) (.int .i64 z.x.s) (.int .i64 z.x.e) (.slice B0 z.x.i.length r1) (.slice A1 z.y.q.length r2) (.int .i64 z.y.s) (.int .i64 z.y.e) (.slice B1 z.y.i.length r3) rest rfl rfl (unhide R5) (by simp [Value.oneCell']) ?_
         intro g' c' w6 rs b6 row6 lg6 hc6
         have LN : Lone g' w6 ((((w6.setCell ⟨g', 4, none⟩ (.slice X1 y.q.length X2)).setCell ⟨g', 5, none⟩ (.int .i64 y.s)).setCell ⟨g', 6, none⟩ (.int .i64 y.e)).setCell ⟨g', 7, none⟩ (.slice X3 y.i.length X4)) := lone_put w6 g' 4 5 6 7 _ _ _ _
         have BF := hide (LN.below (bl_st b6 (unhide B5)) (by have := (unhide B5).size; omega) (bl_st b6 (unhide B5)).size)
         have PNx := hide (peV_lone8 ((unhide PN).below b6) LN (offP_old (unhide PN) lg6))
         have OTx := hide (peV_lone8 ((unhide HPx).below b6) LN (offP_old (unhide HPx) lg6))
         have RF := hide (row6.put4 (.slice X1 y.q.length X2) (.int .i64 y.s) (.int .i64 y.e) (.slice X3 y.i.length X4))
         have HC6 := hide hc6
         clear x0 x1 x2 x3 ka1
         obtain ⟨_, x0, x1, x2, x3⟩ := (pc_row (unhide GW)).below b6
         have ka1 : w6.cell? ⟨w.heap.size, 1, none⟩ = some (.int .i64 1) := row_cell ((b6.block _ (Array.getElem?_eq_some_iff.1 (unhide N5)).1).trans (unhide N5))
         have j0 := row6.c4
         have j1 := row6.c5
         have j2 := row6.c6
         have j3 := row6.c7
         have f0 := row6.fz 4
         have f1 := row6.fz 5
         have f2 := row6.fz 6
         have f3 := row6.fz 7
         clear LN row6 b6 lg6 hc6))
    go_ret2
    rw [unhide HF]
    refine ⟨_, rfl, ⟨g', c', _, _, _, _, rs, rfl, unhide HC6, unhide RF, unhide OTx, unhide KP, unhide PNx, unhide CQ⟩, fun b hb ho => ?_, unhide BF⟩
    obtain ⟨t0, t3, t4, t7⟩ := unhide OT b ho
    obtain ⟨u4, u7⟩ := offP_parts (unhide FRS b hb ⟨_, _, _, _, rfl, t4, t7⟩)
    exact ⟨g', c', _, _, _, _, _, _, _, _, rs, rfl, unhide RF, t0, t3, u4, u7⟩
  · refine wpOp_step (o := { dst := some 6, op := Op.alloc 53, type := 0, pos := "l15_talk.go:93", after := #[], guard := none }) rfl fun K' hK => step_valueW (by rfl) (.pointer (some ⟨w1.heap.size, 0, none⟩)) ({ w1 with drawn := w1.drawn + 1 }.alloc (.cells ZC 53)) (by go_simp) ?_
    have bA : Below w1.heap.size w1 ({ w1 with drawn := w1.drawn + 1 }.alloc (.cells ZC 53)) := bl_al hS0
    have SFA := (show _ ∧ _ from ⟨(unhide HR).below bA, (bA.block _ (Array.getElem?_eq_some_iff.1 (unhide HN)).1).trans (unhide HN)⟩)
    have hW := heap_alloc_new { w1 with drawn := w1.drawn + 1 } (.cells ZC 53)
    have lW : w1.heap.size ≤ w1.heap.size := Nat.le_refl _
    refine hK _ _ ⟨(fun _ => SFA), ?_⟩
    simp only [Act.put, List.setIfInBounds_toArray, List.set_cons_zero, List.set_cons_succ]
    obtain ⟨gW, hgW⟩ : ∃ gW, gW = w1.heap.size := ⟨_, rfl⟩
    rw [show ({ w1 with drawn := w1.drawn + 1 } : World).heap.size = w1.heap.size from rfl, ← hgW] at hW
    have lW : w1.heap.size ≤ gW := by omega
    rw [← hgW]
    clear hgW SFA
    refine wpAnyL_one (i := 7) (by kernel_rfl) ?_
    refine wpOp_step (o := { dst := some 30, op := Op.call { callee := Callee.value (Operand.func 38), args := #[Operand.tmp 27, Operand.tmp 29], argTypes := #[53, 9] }, type := 72, pos := "l15_talk.go:93", after := #[{ on := 4, ground := Ground.data }, { on := 6, ground := Ground.data }], guard := none }) rfl fun K' hK => step_enterW (by rfl) 38 #[peA (.slice A1 z.y.q.length r2) z.y.s z.y.e (.slice B1 z.y.i.length r3), .string a.t] (by go_simp) ((unhide KS _ _ ((unhide HQ).below bA)).mono ?_)
    rintro e w4 ⟨r, rfl, pv, cq, fa, b⟩
    have s := bl_st b bA
    have SG : _ ∧ _ := ⟨(unhide HR).below s, (s.block _ (Array.getElem?_eq_some_iff.1 (unhide HN)).1).trans (unhide HN)⟩
    have cq := cq (unhide KQ)
    obtain ⟨X1, X2, X3, X4, hre⟩ := pv.slices
    subst hre
    have FRS : Hid (∀ b, b < w.heap.size → offP b (peA (.slice A1 z.y.q.length r2) z.y.s z.y.e (.slice B1 z.y.i.length r3)) → offP b (peA (.slice X1 y.q.length X2) y.s y.e (.slice X3 y.i.length X4))) := hide (fun b hb ho => offP_far fa ho (by have := unhide ZW; have := bA.size; omega))
    have hW := (b.block _ (Array.getElem?_eq_some_iff.1 hW).1).trans hW
    clear b fa
    refine ⟨_, rfl, hK _ _ ⟨(fun _ => SG), ?_⟩⟩
    simp only [Act.put, List.setIfInBounds_toArray, List.set_cons_zero, List.set_cons_succ]
    refine wpAnyL_take (i := 8) (oi := { dst := some 22, op := Op.move (Operand.tmp 30), type := 72, pos := "l15_talk.go:93", after := #[{ on := 7, ground := Ground.data }], guard := none }) (v := ?_) rfl (by kernel_rfl) (by kernel_rfl) (by kernel_rfl) (by kernel_rfl) (fun _ _ _ h => h) (Or.inl ⟨by rfl, ?_⟩) SG ?_
    rotate_left
    · intro W hSw
      go_simp
      try with_reducible rfl
    simp only [Act.put, List.setIfInBounds_toArray, List.set_cons_zero, List.set_cons_succ]
    refine wpAnyL_take (i := 9) (oi := { dst := some 31, op := Op.extract (Operand.tmp 22) 0, type := 53, pos := "l15_talk.go:93", after := #[{ on := 8, ground := Ground.data }], guard := none }) (v := ?_) rfl (by kernel_rfl) (by kernel_rfl) (by kernel_rfl) (by kernel_rfl) (fun _ _ _ h => h) (Or.inl ⟨by rfl, ?_⟩) SG ?_
    rotate_left
    · intro W hSw
      go_simp
      try with_reducible rfl
    simp only [Act.put, List.setIfInBounds_toArray, List.set_cons_zero, List.set_cons_succ]
    refine wpAnyL_take (i := 10) (oi := { dst := some 32, op := Op.extract (Operand.tmp 22) 1, type := 3, pos := "l15_talk.go:93", after := #[{ on := 8, ground := Ground.data }, { on := 12, ground := Ground.gcOnly Departure.lateStores }], guard := none }) (v := ?_) rfl (by kernel_rfl) (by kernel_rfl) (by kernel_rfl) (by kernel_rfl) (fun _ _ _ h => h) (Or.inl ⟨by rfl, ?_⟩) SG ?_
    rotate_left
    · intro W hSw
      go_simp
      try with_reducible rfl
    simp only [Act.put, List.setIfInBounds_toArray, List.set_cons_zero, List.set_cons_succ]
    have LW := lone_setRow gW w4 #[.slice X1 y.q.length X2, .int .i64 y.s, .int .i64 y.e, .slice X3 y.i.length X4]
    have zw := unhide ZW
    have SZ5 := hide (show (w4.setRow gW #[.slice X1 y.q.length X2, .int .i64 y.s, .int .i64 y.e, .slice X3 y.i.length X4]).heap.size = w4.heap.size from size_setRow _ _ _)
    have SH : _ ∧ _ := ⟨(SG.1).lone LW (by omega), (LW.block _ (by have := s.size; omega) (by omega)).trans SG.2⟩
    refine wpAnyL_one (i := 12) (by kernel_rfl) ?_
    refine wpOp_step (o := { dst := none, op := Op.store 53 (Operand.tmp 6) (Operand.tmp 31), type := 0, pos := "l15_talk.go:93", after := #[{ on := 11, ground := Ground.data }, { on := 9, ground := Ground.data }, { on := 7, ground := Ground.chain }, { on := 0, ground := Ground.phase }, { on := 1, ground := Ground.phase }, { on := 2, ground := Ground.phase }, { on := 3, ground := Ground.phase }, { on := 4, ground := Ground.phase }, { on := 5, ground := Ground.phase }, { on := 6, ground := Ground.phase }, { on := 7, ground := Ground.phase }, { on := 8, ground := Ground.phase }, { on := 9, ground := Ground.phase }, { on := 10, ground := Ground.textOnly Departure.lateStores }, { on := 11, ground := Ground.phase }], guard := none }) rfl fun K' hK => step_sRow (by rfl) 53 _ _ rfl gW #[.slice X1 y.q.length X2, .int .i64 y.s, .int .i64 y.e, .slice X3 y.i.length X4] rfl rfl 53 ZC hW (by kernel_rfl) rfl (by kernel_rfl) ?_
    refine hK _ _ ⟨(fun _ => SH), ?_⟩
    try simp only [Act.put]
    refine wpAnyL_one (i := 13) (by kernel_rfl) ?_
    refine wpOp_step (o := { dst := some 7, op := Op.assign (Operand.tmp 32), type := 3, pos := "l15_talk.go:93", after := #[{ on := 10, ground := Ground.data }, { on := 12, ground := Ground.chain }, { on := 0, ground := Ground.phase }, { on := 1, ground := Ground.phase }, { on := 2, ground := Ground.phase }, { on := 3, ground := Ground.phase }, { on := 4, ground := Ground.phase }, { on := 5, ground := Ground.phase }, { on := 6, ground := Ground.phase }, { on := 7, ground := Ground.phase }, { on := 8, ground := Ground.phase }, { on := 9, ground := Ground.phase }, { on := 10, ground := Ground.phase }, { on := 11, ground := Ground.phase }, { on := 12, ground := Ground.phase }], guard := none }) rfl fun K' hK => step_valueW (by rfl) (.int .i64 cd) (w4.setRow gW #[.slice X1 y.q.length X2, .int .i64 y.s, .int .i64 y.e, .slice X3 y.i.length X4]) (by go_simp) ?_
    refine hK _ _ ⟨(fun _ => SH), ?_⟩
    simp only [Act.put, List.setIfInBounds_toArray, List.set_cons_zero, List.set_cons_succ]
    refine wpAnyL_done (by kernel_rfl) ?_ _
    have R5 := hide ((SG.1).lone LW (by omega))
    have B5 := hide (LW.below (bl_st s (unhide HB)) (by omega) (bl_st s (unhide HB)).size)
    have PN := hide (peV_lone8 pv LW (offP_row pv hW))
    have GW := hide (get_setRow (cs := #[.slice X1 y.q.length X2, .int .i64 y.s, .int .i64 y.e, .slice X3 y.i.length X4]) hW)
    have HPx := hide (peV_lone8 ((unhide HP).below s) LW (unhide OX gW (by omega)))
    have N5 := hide ((LW.block _ (by have := s.size; omega) (by omega)).trans SG.2)
    have CQ := hide cq
    have HGW := hide (show gW < (w4.setRow gW #[.slice X1 y.q.length X2, .int .i64 y.s, .int .i64 y.e, .slice X3 y.i.length X4]).heap.size by rw [size_setRow]; exact (Array.getElem?_eq_some_iff.1 hW).1)
    have LGW := hide lW
    clear LW hW pv cq SG SF SH hS0 s lW zw HR HN HB
    generalize w4.setRow gW #[.slice X1 y.q.length X2, .int .i64 y.s, .int .i64 y.e, .slice X3 y.i.length X4] = w5 at *
    obtain ⟨_, x0, x1, x2, x3⟩ := pc_row (unhide GW)
    have ka1 : w5.cell? ⟨w.heap.size, 1, none⟩ = some (.int .i64 1) := row_cell (unhide N5)
    have E5 : Hid (w5.heap.size = w5.heap.size) := hide rfl
    go_wp2_with (first
      | (at_builtin; refine wpList_copy8 w5 rfl _ _ rfl w5.heap.size g c rfl (.slice A0 z.x.q.length r0) (.int .i64 z.x.s) (.int .i64 z.x.e) (.slice B0 z.x.i.length r1) (.slice A1 z.y.q.length r2) (.int .i64 z.y.s) (.int .i64 z.y.e) (.slice B1 z.y.i.length r3) rest rfl rfl (unhide R5) (by simp [Value.oneCell']) ?_
         intro g' c' w6 rs b6 row6 lg6 hc6
         have LN : Lone g' w6 ((((w6.setCell ⟨g', 4, none⟩ (.slice X1 y.q.length X2)).setCell ⟨g', 5, none⟩ (.int .i64 y.s)).setCell ⟨g', 6, none⟩ (.int .i64 y.e)).setCell ⟨g', 7, none⟩ (.slice X3 y.i.length X4)) := lone_put w6 g' 4 5 6 7 _ _ _ _
         have BF := hide (LN.below (bl_st b6 (unhide B5)) (by have := (unhide B5).size; omega) (bl_st b6 (unhide B5)).size)
         have PNx := hide (peV_lone8 ((unhide PN).below b6) LN (offP_old (unhide PN) lg6))
         have OTx := hide (peV_lone8 ((unhide HPx).below b6) LN (offP_old (unhide HPx) lg6))
         have RF := hide (row6.put4 (.slice X1 y.q.length X2) (.int .i64 y.s) (.int .i64 y.e) (.slice X3 y.i.length X4))
         have HC6 := hide hc6
         clear x0 x1 x2 x3 ka1
         obtain ⟨_, x0, x1, x2, x3⟩ := (pc_row (unhide GW)).below b6
         have ka1 : w6.cell? ⟨w.heap.size, 1, none⟩ = some (.int .i64 1) := row_cell ((b6.block _ (Array.getElem?_eq_some_iff.1 (unhide N5)).1).trans (unhide N5))
         have j0 := row6.c4
         have j1 := row6.c5
         have j2 := row6.c6
         have j3 := row6.c7
         have f0 := row6.fz 4
         have f1 := row6.fz 5
         have f2 := row6.fz 6
         have f3 := row6.fz 7
         clear LN row6 b6 lg6 hc6))
    go_ret2
    rw [unhide HF]
    refine ⟨_, rfl, ⟨g', c', _, _, _, _, rs, rfl, unhide HC6, unhide RF, unhide OTx, unhide KP, unhide PNx, unhide CQ⟩, fun b hb ho => ?_, unhide BF⟩
    obtain ⟨t0, t3, t4, t7⟩ := unhide OT b ho
    obtain ⟨u4, u7⟩ := offP_parts (unhide FRS b hb ⟨_, _, _, _, rfl, t4, t7⟩)
    exact ⟨g', c', _, _, _, _, _, _, _, _, rs, rfl, unhide RF, t0, t3, u4, u7⟩
end Go.Proofs.YtbkcgkffafjbgaaGreatDoor
