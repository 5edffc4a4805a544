/- What one of two says, by the program. -/
import Derived.Test.YtbkcgkffafjbgaaGreatDoorAlo
import Derived.OrdersHeld
namespace Go.Proofs.YtbkcgkffafjbgaaGreatDoor
open Go.RowKit
set_option maxHeartbeats 4000000
set_option maxRecDepth 20000
set_option linter.unusedVariables false
theorem sayR_in {p : Pe} {t : ByteArray} (h : peOK p = true) (ht : t.size ≤ 65536) : sayR p t = sayF p t := by
  unfold sayR; rw [if_neg (by omega), if_pos h]
theorem alone_say0 (base g : Nat) (z : Tw) (a : Ta) (w : World) (h : TwO base g z w) (hB : base ≤ w.heap.size) (hk : a.k = 1) (hw : a.w = 0) (hok : peOK z.x = true) (hf : peFew z.x) (ht : a.t.size ≤ 65536) :
    Calls Tryz.prog 80 #[.slice (some ⟨g, 0, none⟩) 2 2, taA a.k a.w a.t a.la a.lb] w fun e w' => e = .returned (.int .i64 (stepF z a).2) ∧ TwO base g (stepF z a).1 w' ∧ Lone g w w' := by
  have HF := hide (show stepF z a = ((⟨(sayF z.x a.t).1, z.y⟩ : Tw), (sayF z.x a.t).2) by
    unfold stepF; rw [hk, hw]; simp [okW, Tw.at, Tw.put])
  have HT := hide (h.below (bl_al (o := .cells #[.int .i64 a.k, .int .i64 a.w, .string a.t, .bool a.la, .bool a.lb] 27) (Below.refl _ _)))
  have HL : Hid (Lone g w (w.alloc (.cells #[.int .i64 a.k, .int .i64 a.w, .string a.t, .bool a.la, .bool a.lb] 27))) := hide (Lone.of_below (bl_al (Below.refl _ _)))
  obtain ⟨q0, i0, q1, i1, lo0, hi0, lo1, hi1, hr, hx, hy, gb, b0, b1, z0, z1, dj⟩ := unhide HT
  have ⟨A0, r0, C0, r1, e0⟩ := hx.pe.slices
  have ⟨A1, r2, C1, r3, e1⟩ := hy.pe.slices
  obtain ⟨rfl, rfl⟩ := peA_inj e0
  obtain ⟨rfl, rfl⟩ := peA_inj e1
  have HN := hide (heap_alloc_new w (.cells #[.int .i64 a.k, .int .i64 a.w, .string a.t, .bool a.la, .bool a.lb] 27))
  have gl := h.choose_spec
  clear e0 e1 gl
  have K := hide (fun u W (hu : peV W u z.x) => by have K := say21 u z.x a.t W hu hf (by unfold maxLen; omega); rw [sayR_in hok ht] at K; exact K)
  have HR := hide hr
  have HV := hide hx.pe
  have hsz : Hid (base ≤ (w.alloc (.cells #[.int .i64 a.k, .int .i64 a.w, .string a.t, .bool a.la, .bool a.lb] 27)).heap.size) := hide (by simp; omega)
  obtain ⟨k, wh, tt, la, lb⟩ := a
  dsimp only at *
  subst hk hw
  generalize hy' : sayF z.x tt = yy at *
  obtain ⟨y, cd⟩ := yy
  clear h hr hx hy hok hf ht hy'
  go_enter Tryz.func80, Tryz.ntmps80
  go_wp2_with fail
  generalize (w.alloc (.cells #[.int .i64 1, .int .i64 0, .string tt, .bool la, .bool lb] 27)) = w1 at *
  refine wp_region_held (S := fun _ => True) (by kernel_rfl) ?_
  have hS0 : Below w1.heap.size w1 { w1 with drawn := w1.drawn + 1 } := below_drewN (Below.refl _ _) 1
  obtain ⟨w2, hw2⟩ : ∃ x, x = ({ w1 with drawn := w1.drawn + 1 } : World) := ⟨_, rfl⟩
  rw [← hw2] at hS0 ⊢
  clear hw2
  have k0 := ((unhide HR).below hS0).c0
  have k1 := ((unhide HR).below hS0).c1
  have k2 := ((unhide HR).below hS0).c2
  have k3 := ((unhide HR).below hS0).c3
  have m2 := row_cell (i := 2) ((hS0.block _ (Array.getElem?_eq_some_iff.1 (unhide HN)).1).trans (unhide HN))
  simp at m2
  refine wpAnyH_take (i := 0) (oi := { dst := some 26, op := Op.move (Operand.tmp 5), type := 119, pos := "l15_talk.go:160", after := #[], guard := none }) (v := ?_) rfl (by kernel_rfl) (by kernel_rfl) (by kernel_rfl) (fun _ _ _ h => h) (Or.inl ⟨by rfl, ?_⟩) trivial ?_
  rotate_left
  · intro W hSw
    go_simp
    try with_reducible rfl
  simp only [Act.put, List.setIfInBounds_toArray, List.set_cons_zero, List.set_cons_succ]
  refine wpAnyH_take (i := 1) (oi := { dst := some 27, op := Op.move (Operand.tmp 5), type := 119, pos := "l15_talk.go:160", after := #[], guard := none }) (v := ?_) rfl (by kernel_rfl) (by kernel_rfl) (by kernel_rfl) (fun _ _ _ h => h) (Or.inl ⟨by rfl, ?_⟩) trivial ?_
  rotate_left
  · intro W hSw
    go_simp
    try with_reducible rfl
  simp only [Act.put, List.setIfInBounds_toArray, List.set_cons_zero, List.set_cons_succ]
  refine wpAnyH_take (i := 2) (oi := { dst := some 28, op := Op.nilCheck (Operand.tmp 27), type := 0, pos := "l15_talk.go:160", after := #[{ on := 1, ground := Ground.data }], guard := none }) (v := ?_) rfl (by kernel_rfl) (by kernel_rfl) (by kernel_rfl) (fun _ _ _ h => h) (Or.inl ⟨by rfl, ?_⟩) trivial ?_
  rotate_left
  · intro W hSw
    go_simp
    try with_reducible rfl
  simp only [Act.put, List.setIfInBounds_toArray, List.set_cons_zero, List.set_cons_succ]
  refine wpAnyH_take (i := 4) (oi := { dst := some 30, op := Op.fieldAddr 27 (Operand.tmp 3) 2, type := 0, pos := "l15_talk.go:160", after := #[], guard := none }) (v := ?_) rfl (by kernel_rfl) (by kernel_rfl) (by kernel_rfl) (fun _ _ _ h => h) (Or.inl ⟨by rfl, ?_⟩) trivial ?_
  rotate_left
  · intro W hSw
    go_simp
    try with_reducible rfl
  simp only [Act.put, List.setIfInBounds_toArray, List.set_cons_zero, List.set_cons_succ]
  refine wpAnyH_two (i := 3) (j := 5) (by kernel_rfl) ?_ ?_
  · refine wpOp_step (o := { dst := some 29, op := Op.load 53 (Operand.tmp 28), type := 53, pos := "l15_talk.go:160", after := #[{ on := 2, ground := Ground.data }], guard := none }) rfl fun K' hK => step_valueW (by rfl) (peA (.slice A0 z.x.q.length r0) z.x.s z.x.e (.slice C0 z.x.i.length r1)) (w2) (by go_simp) ?_
    refine hK _ _ ⟨trivial, ?_⟩
    simp only [Act.put, List.setIfInBounds_toArray, List.set_cons_zero, List.set_cons_succ]
    refine wpAnyH_one (i := 5) (by kernel_rfl) ?_
    refine wpOp_step (o := { dst := some 31, op := Op.load 9 (Operand.tmp 30), type := 9, pos := "l15_talk.go:160", after := #[{ on := 4, ground := Ground.data }], guard := none }) rfl fun K' hK => step_valueW (by rfl) (.string tt) (w2) (by go_simp) ?_
    refine hK _ _ ⟨trivial, ?_⟩
    simp only [Act.put, List.setIfInBounds_toArray, List.set_cons_zero, List.set_cons_succ]
    refine wpAnyH_one (i := 6) (by kernel_rfl) ?_
    refine wpOp_step (o := { dst := some 32, op := Op.call { callee := Callee.value (Operand.func 94), args := #[Operand.tmp 29, Operand.tmp 31], argTypes := #[53, 9] }, type := 72, pos := "l15_talk.go:160", after := #[{ on := 3, ground := Ground.data }, { on := 5, ground := Ground.data }], guard := none }) rfl fun K' hK => step_enterW (by rfl) 94 #[peA (.slice A0 z.x.q.length r0) z.x.s z.x.e (.slice C0 z.x.i.length r1), .string tt] (by go_simp) ((unhide K _ _ ((unhide HV).below hS0)).mono ?_)
    rintro e w3 ⟨r, rfl, po, b3⟩
    have s3 := bl_st b3 hS0
    have PO := hide po
    obtain ⟨qq, ii, rfl, hq, hi, _⟩ := po
    obtain ⟨Aq, aq, rfl⟩ := hq.strs.slice
    obtain ⟨Ai, ai, rfl⟩ := hi.strs.slice
    clear hq hi

    refine ⟨_, rfl, hK _ _ ⟨trivial, ?_⟩⟩
    simp only [Act.put, List.setIfInBounds_toArray, List.set_cons_zero, List.set_cons_succ]
    refine wpAnyH_take (i := 7) (oi := { dst := some 25, op := Op.move (Operand.tmp 32), type := 72, pos := "l15_talk.go:160", after := #[{ on := 6, ground := Ground.data }], guard := none }) (v := ?_) rfl (by kernel_rfl) (by kernel_rfl) (by kernel_rfl) (fun _ _ _ h => h) (Or.inl ⟨by rfl, ?_⟩) trivial ?_
    rotate_left
    · intro W hSw
      go_simp
      try with_reducible rfl
    simp only [Act.put, List.setIfInBounds_toArray, List.set_cons_zero, List.set_cons_succ]
    refine wpAnyH_take (i := 8) (oi := { dst := some 33, op := Op.extract (Operand.tmp 25) 0, type := 53, pos := "l15_talk.go:160", after := #[{ on := 7, ground := Ground.data }], guard := none }) (v := ?_) rfl (by kernel_rfl) (by kernel_rfl) (by kernel_rfl) (fun _ _ _ h => h) (Or.inl ⟨by rfl, ?_⟩) trivial ?_
    rotate_left
    · intro W hSw
      go_simp
      try with_reducible rfl
    simp only [Act.put, List.setIfInBounds_toArray, List.set_cons_zero, List.set_cons_succ]
    refine wpAnyH_take (i := 9) (oi := { dst := some 34, op := Op.extract (Operand.tmp 25) 1, type := 3, pos := "l15_talk.go:160", after := #[{ on := 7, ground := Ground.data }, { on := 11, ground := Ground.gcOnly Departure.lateStores }], guard := none }) (v := ?_) rfl (by kernel_rfl) (by kernel_rfl) (by kernel_rfl) (fun _ _ _ h => h) (Or.inl ⟨by rfl, ?_⟩) trivial ?_
    rotate_left
    · intro W hSw
      go_simp
      try with_reducible rfl
    simp only [Act.put, List.setIfInBounds_toArray, List.set_cons_zero, List.set_cons_succ]
    refine wpAnyH_take (i := 10) (oi := { dst := some 35, op := Op.nilCheck (Operand.tmp 26), type := 0, pos := "l15_talk.go:160", after := #[{ on := 0, ground := Ground.data }, { on := 0, ground := Ground.phase }, { on := 1, ground := Ground.phase }, { on := 2, ground := Ground.phase }, { on := 3, ground := Ground.phase }, { on := 4, ground := Ground.phase }, { on := 5, ground := Ground.phase }, { on := 6, ground := Ground.phase }, { on := 7, ground := Ground.phase }, { on := 8, ground := Ground.phase }, { on := 9, ground := Ground.textOnly Departure.lateStores }], guard := none }) (v := ?_) rfl (by kernel_rfl) (by kernel_rfl) (by kernel_rfl) (fun _ _ _ h => h) (Or.inl ⟨by rfl, ?_⟩) trivial ?_
    rotate_left
    · intro W hSw
      go_simp
      try with_reducible rfl
    simp only [Act.put, List.setIfInBounds_toArray, List.set_cons_zero, List.set_cons_succ]
    have R3 := (unhide HR).below s3
    have f0 := R3.fz 0
    have f1 := R3.fz 1
    have f2 := R3.fz 2
    have f3 := R3.fz 3
    have k0 := R3.c0
    have k1 := R3.c1
    have k2 := R3.c2
    have k3 := R3.c3
    have HT3 := hide ((unhide HT).put0 s3 (peO.wide (unhide PO) hS0.size (Nat.le_refl _)) (unhide hsz))
    have HL3 := hide (((unhide HL).trans (Lone.of_below s3)).trans (lone_put w3 g 0 1 2 3 (.slice Aq y.q.length aq) (.int .i64 y.s) (.int .i64 y.e) (.slice Ai y.i.length ai)))
    refine wpAnyH_one (i := 11) (by kernel_rfl) ?_
    refine wpOp_step (o := { dst := none, op := Op.store 53 (Operand.tmp 35) (Operand.tmp 33), type := 0, pos := "l15_talk.go:160", after := #[{ on := 10, ground := Ground.data }, { on := 8, ground := Ground.data }, { on := 6, ground := Ground.chain }, { on := 0, ground := Ground.phase }, { on := 1, ground := Ground.phase }, { on := 2, ground := Ground.phase }, { on := 3, ground := Ground.phase }, { on := 4, ground := Ground.phase }, { on := 5, ground := Ground.phase }, { on := 6, ground := Ground.phase }, { on := 7, ground := Ground.phase }, { on := 8, ground := Ground.phase }, { on := 9, ground := Ground.textOnly Departure.lateStores }], guard := none }) rfl fun K' hK => step_skipW (by rfl) ((((w3.setCell ⟨g, 0, none⟩ (.slice Aq y.q.length aq)).setCell ⟨g, 1, none⟩ (.int .i64 y.s)).setCell ⟨g, 2, none⟩ (.int .i64 y.e)).setCell ⟨g, 3, none⟩ (.slice Ai y.i.length ai)) (by go_simp) ?_
    refine hK _ _ ⟨trivial, ?_⟩
    try simp only [Act.put]
    refine wpAnyH_one (i := 12) (by kernel_rfl) ?_
    refine wpOp_step (o := { dst := some 4, op := Op.assign (Operand.tmp 34), type := 3, pos := "l15_talk.go:160", after := #[{ on := 9, ground := Ground.data }, { on := 11, ground := Ground.chain }, { on := 0, ground := Ground.phase }, { on := 1, ground := Ground.phase }, { on := 2, ground := Ground.phase }, { on := 3, ground := Ground.phase }, { on := 4, ground := Ground.phase }, { on := 5, ground := Ground.phase }, { on := 6, ground := Ground.phase }, { on := 7, ground := Ground.phase }, { on := 8, ground := Ground.phase }, { on := 9, ground := Ground.phase }, { on := 10, ground := Ground.phase }, { on := 11, ground := Ground.phase }], guard := none }) rfl fun K' hK => step_valueW (by rfl) (.int .i64 cd) ((((w3.setCell ⟨g, 0, none⟩ (.slice Aq y.q.length aq)).setCell ⟨g, 1, none⟩ (.int .i64 y.s)).setCell ⟨g, 2, none⟩ (.int .i64 y.e)).setCell ⟨g, 3, none⟩ (.slice Ai y.i.length ai)) (by go_simp) ?_
    refine hK _ _ ⟨trivial, ?_⟩
    simp only [Act.put, List.setIfInBounds_toArray, List.set_cons_zero, List.set_cons_succ]
    refine wpAnyH_done (by kernel_rfl) ?_ _
    go_wp2
    go_ret
    rw [unhide HF]; exact ⟨rfl, unhide HT3, unhide HL3⟩
  · refine wpOp_step (o := { dst := some 31, op := Op.load 9 (Operand.tmp 30), type := 9, pos := "l15_talk.go:160", after := #[{ on := 4, ground := Ground.data }], guard := none }) rfl fun K' hK => step_valueW (by rfl) (.string tt) (w2) (by go_simp) ?_
    refine hK _ _ ⟨trivial, ?_⟩
    simp only [Act.put, List.setIfInBounds_toArray, List.set_cons_zero, List.set_cons_succ]
    refine wpAnyH_one (i := 3) (by kernel_rfl) ?_
    refine wpOp_step (o := { dst := some 29, op := Op.load 53 (Operand.tmp 28), type := 53, pos := "l15_talk.go:160", after := #[{ on := 2, ground := Ground.data }], guard := none }) rfl fun K' hK => step_valueW (by rfl) (peA (.slice A0 z.x.q.length r0) z.x.s z.x.e (.slice C0 z.x.i.length r1)) (w2) (by go_simp) ?_
    refine hK _ _ ⟨trivial, ?_⟩
    simp only [Act.put, List.setIfInBounds_toArray, List.set_cons_zero, List.set_cons_succ]
    refine wpAnyH_one (i := 6) (by kernel_rfl) ?_
    refine wpOp_step (o := { dst := some 32, op := Op.call { callee := Callee.value (Operand.func 94), args := #[Operand.tmp 29, Operand.tmp 31], argTypes := #[53, 9] }, type := 72, pos := "l15_talk.go:160", after := #[{ on := 3, ground := Ground.data }, { on := 5, ground := Ground.data }], guard := none }) rfl fun K' hK => step_enterW (by rfl) 94 #[peA (.slice A0 z.x.q.length r0) z.x.s z.x.e (.slice C0 z.x.i.length r1), .string tt] (by go_simp) ((unhide K _ _ ((unhide HV).below hS0)).mono ?_)
    rintro e w3 ⟨r, rfl, po, b3⟩
    have s3 := bl_st b3 hS0
    have PO := hide po
    obtain ⟨qq, ii, rfl, hq, hi, _⟩ := po
    obtain ⟨Aq, aq, rfl⟩ := hq.strs.slice
    obtain ⟨Ai, ai, rfl⟩ := hi.strs.slice
    clear hq hi

    refine ⟨_, rfl, hK _ _ ⟨trivial, ?_⟩⟩
    simp only [Act.put, List.setIfInBounds_toArray, List.set_cons_zero, List.set_cons_succ]
    refine wpAnyH_take (i := 7) (oi := { dst := some 25, op := Op.move (Operand.tmp 32), type := 72, pos := "l15_talk.go:160", after := #[{ on := 6, ground := Ground.data }], guard := none }) (v := ?_) rfl (by kernel_rfl) (by kernel_rfl) (by kernel_rfl) (fun _ _ _ h => h) (Or.inl ⟨by rfl, ?_⟩) trivial ?_
    rotate_left
    · intro W hSw
      go_simp
      try with_reducible rfl
    simp only [Act.put, List.setIfInBounds_toArray, List.set_cons_zero, List.set_cons_succ]
    refine wpAnyH_take (i := 8) (oi := { dst := some 33, op := Op.extract (Operand.tmp 25) 0, type := 53, pos := "l15_talk.go:160", after := #[{ on := 7, ground := Ground.data }], guard := none }) (v := ?_) rfl (by kernel_rfl) (by kernel_rfl) (by kernel_rfl) (fun _ _ _ h => h) (Or.inl ⟨by rfl, ?_⟩) trivial ?_
    rotate_left
    · intro W hSw
      go_simp
      try with_reducible rfl
    simp only [Act.put, List.setIfInBounds_toArray, List.set_cons_zero, List.set_cons_succ]
    refine wpAnyH_take (i := 9) (oi := { dst := some 34, op := Op.extract (Operand.tmp 25) 1, type := 3, pos := "l15_talk.go:160", after := #[{ on := 7, ground := Ground.data }, { on := 11, ground := Ground.gcOnly Departure.lateStores }], guard := none }) (v := ?_) rfl (by kernel_rfl) (by kernel_rfl) (by kernel_rfl) (fun _ _ _ h => h) (Or.inl ⟨by rfl, ?_⟩) trivial ?_
    rotate_left
    · intro W hSw
      go_simp
      try with_reducible rfl
    simp only [Act.put, List.setIfInBounds_toArray, List.set_cons_zero, List.set_cons_succ]
    refine wpAnyH_take (i := 10) (oi := { dst := some 35, op := Op.nilCheck (Operand.tmp 26), type := 0, pos := "l15_talk.go:160", after := #[{ on := 0, ground := Ground.data }, { on := 0, ground := Ground.phase }, { on := 1, ground := Ground.phase }, { on := 2, ground := Ground.phase }, { on := 3, ground := Ground.phase }, { on := 4, ground := Ground.phase }, { on := 5, ground := Ground.phase }, { on := 6, ground := Ground.phase }, { on := 7, ground := Ground.phase }, { on := 8, ground := Ground.phase }, { on := 9, ground := Ground.textOnly Departure.lateStores }], guard := none }) (v := ?_) rfl (by kernel_rfl) (by kernel_rfl) (by kernel_rfl) (fun _ _ _ h => h) (Or.inl ⟨by rfl, ?_⟩) trivial ?_
    rotate_left
    · intro W hSw
      go_simp
      try with_reducible rfl
    simp only [Act.put, List.setIfInBounds_toArray, List.set_cons_zero, List.set_cons_succ]
    have R3 := (unhide HR).below s3
    have f0 := R3.fz 0
    have f1 := R3.fz 1
    have f2 := R3.fz 2
    have f3 := R3.fz 3
    have k0 := R3.c0
    have k1 := R3.c1
    have k2 := R3.c2
    have k3 := R3.c3
    have HT3 := hide ((unhide HT).put0 s3 (peO.wide (unhide PO) hS0.size (Nat.le_refl _)) (unhide hsz))
    have HL3 := hide (((unhide HL).trans (Lone.of_below s3)).trans (lone_put w3 g 0 1 2 3 (.slice Aq y.q.length aq) (.int .i64 y.s) (.int .i64 y.e) (.slice Ai y.i.length ai)))
    refine wpAnyH_one (i := 11) (by kernel_rfl) ?_
    refine wpOp_step (o := { dst := none, op := Op.store 53 (Operand.tmp 35) (Operand.tmp 33), type := 0, pos := "l15_talk.go:160", after := #[{ on := 10, ground := Ground.data }, { on := 8, ground := Ground.data }, { on := 6, ground := Ground.chain }, { on := 0, ground := Ground.phase }, { on := 1, ground := Ground.phase }, { on := 2, ground := Ground.phase }, { on := 3, ground := Ground.phase }, { on := 4, ground := Ground.phase }, { on := 5, ground := Ground.phase }, { on := 6, ground := Ground.phase }, { on := 7, ground := Ground.phase }, { on := 8, ground := Ground.phase }, { on := 9, ground := Ground.textOnly Departure.lateStores }], guard := none }) rfl fun K' hK => step_skipW (by rfl) ((((w3.setCell ⟨g, 0, none⟩ (.slice Aq y.q.length aq)).setCell ⟨g, 1, none⟩ (.int .i64 y.s)).setCell ⟨g, 2, none⟩ (.int .i64 y.e)).setCell ⟨g, 3, none⟩ (.slice Ai y.i.length ai)) (by go_simp) ?_
    refine hK _ _ ⟨trivial, ?_⟩
    try simp only [Act.put]
    refine wpAnyH_one (i := 12) (by kernel_rfl) ?_
    refine wpOp_step (o := { dst := some 4, op := Op.assign (Operand.tmp 34), type := 3, pos := "l15_talk.go:160", after := #[{ on := 9, ground := Ground.data }, { on := 11, ground := Ground.chain }, { on := 0, ground := Ground.phase }, { on := 1, ground := Ground.phase }, { on := 2, ground := Ground.phase }, { on := 3, ground := Ground.phase }, { on := 4, ground := Ground.phase }, { on := 5, ground := Ground.phase }, { on := 6, ground := Ground.phase }, { on := 7, ground := Ground.phase }, { on := 8, ground := Ground.phase }, { on := 9, ground := Ground.phase }, { on := 10, ground := Ground.phase }, { on := 11, ground := Ground.phase }], guard := none }) rfl fun K' hK => step_valueW (by rfl) (.int .i64 cd) ((((w3.setCell ⟨g, 0, none⟩ (.slice Aq y.q.length aq)).setCell ⟨g, 1, none⟩ (.int .i64 y.s)).setCell ⟨g, 2, none⟩ (.int .i64 y.e)).setCell ⟨g, 3, none⟩ (.slice Ai y.i.length ai)) (by go_simp) ?_
    refine hK _ _ ⟨trivial, ?_⟩
    simp only [Act.put, List.setIfInBounds_toArray, List.set_cons_zero, List.set_cons_succ]
    refine wpAnyH_done (by kernel_rfl) ?_ _
    go_wp2
    go_ret
    rw [unhide HF]; exact ⟨rfl, unhide HT3, unhide HL3⟩
theorem alone_say1 (base g : Nat) (z : Tw) (a : Ta) (w : World) (h : TwO base g z w) (hB : base ≤ w.heap.size) (hk : a.k = 1) (hw : a.w = 1) (hok : peOK z.y = true) (hf : peFew z.y) (ht : a.t.size ≤ 65536) :
    Calls Tryz.prog 80 #[.slice (some ⟨g, 0, none⟩) 2 2, taA a.k a.w a.t a.la a.lb] w fun e w' => e = .returned (.int .i64 (stepF z a).2) ∧ TwO base g (stepF z a).1 w' ∧ Lone g w w' := by
  have HF := hide (show stepF z a = ((⟨z.x, (sayF z.y a.t).1⟩ : Tw), (sayF z.y a.t).2) by
    unfold stepF; rw [hk, hw]; simp [okW, Tw.at, Tw.put])
  have HT := hide (h.below (bl_al (o := .cells #[.int .i64 a.k, .int .i64 a.w, .string a.t, .bool a.la, .bool a.lb] 27) (Below.refl _ _)))
  have HL : Hid (Lone g w (w.alloc (.cells #[.int .i64 a.k, .int .i64 a.w, .string a.t, .bool a.la, .bool a.lb] 27))) := hide (Lone.of_below (bl_al (Below.refl _ _)))
  obtain ⟨q0, i0, q1, i1, lo0, hi0, lo1, hi1, hr, hx, hy, gb, b0, b1, z0, z1, dj⟩ := unhide HT
  have ⟨A0, r0, C0, r1, e0⟩ := hx.pe.slices
  have ⟨A1, r2, C1, r3, e1⟩ := hy.pe.slices
  obtain ⟨rfl, rfl⟩ := peA_inj e0
  obtain ⟨rfl, rfl⟩ := peA_inj e1
  have HN := hide (heap_alloc_new w (.cells #[.int .i64 a.k, .int .i64 a.w, .string a.t, .bool a.la, .bool a.lb] 27))
  have gl := h.choose_spec
  clear e0 e1 gl
  have K := hide (fun u W (hu : peV W u z.y) => by have K := say21 u z.y a.t W hu hf (by unfold maxLen; omega); rw [sayR_in hok ht] at K; exact K)
  have HR := hide hr
  have HV := hide hy.pe
  have hsz : Hid (base ≤ (w.alloc (.cells #[.int .i64 a.k, .int .i64 a.w, .string a.t, .bool a.la, .bool a.lb] 27)).heap.size) := hide (by simp; omega)
  obtain ⟨k, wh, tt, la, lb⟩ := a
  dsimp only at *
  subst hk hw
  generalize hy' : sayF z.y tt = yy at *
  obtain ⟨y, cd⟩ := yy
  clear h hr hx hy hok hf ht hy'
  go_enter Tryz.func80, Tryz.ntmps80
  go_wp2_with fail
  generalize (w.alloc (.cells #[.int .i64 1, .int .i64 1, .string tt, .bool la, .bool lb] 27)) = w1 at *
  refine wp_region_held (S := fun _ => True) (by kernel_rfl) ?_
  have hS0 : Below w1.heap.size w1 { w1 with drawn := w1.drawn + 1 } := below_drewN (Below.refl _ _) 1
  obtain ⟨w2, hw2⟩ : ∃ x, x = ({ w1 with drawn := w1.drawn + 1 } : World) := ⟨_, rfl⟩
  rw [← hw2] at hS0 ⊢
  clear hw2
  have k4 := ((unhide HR).below hS0).c4
  have k5 := ((unhide HR).below hS0).c5
  have k6 := ((unhide HR).below hS0).c6
  have k7 := ((unhide HR).below hS0).c7
  have m2 := row_cell (i := 2) ((hS0.block _ (Array.getElem?_eq_some_iff.1 (unhide HN)).1).trans (unhide HN))
  simp at m2
  refine wpAnyH_take (i := 0) (oi := { dst := some 26, op := Op.move (Operand.tmp 5), type := 119, pos := "l15_talk.go:160", after := #[], guard := none }) (v := ?_) rfl (by kernel_rfl) (by kernel_rfl) (by kernel_rfl) (fun _ _ _ h => h) (Or.inl ⟨by rfl, ?_⟩) trivial ?_
  rotate_left
  · intro W hSw
    go_simp
    try with_reducible rfl
  simp only [Act.put, List.setIfInBounds_toArray, List.set_cons_zero, List.set_cons_succ]
  refine wpAnyH_take (i := 1) (oi := { dst := some 27, op := Op.move (Operand.tmp 5), type := 119, pos := "l15_talk.go:160", after := #[], guard := none }) (v := ?_) rfl (by kernel_rfl) (by kernel_rfl) (by kernel_rfl) (fun _ _ _ h => h) (Or.inl ⟨by rfl, ?_⟩) trivial ?_
  rotate_left
  · intro W hSw
    go_simp
    try with_reducible rfl
  simp only [Act.put, List.setIfInBounds_toArray, List.set_cons_zero, List.set_cons_succ]
  refine wpAnyH_take (i := 2) (oi := { dst := some 28, op := Op.nilCheck (Operand.tmp 27), type := 0, pos := "l15_talk.go:160", after := #[{ on := 1, ground := Ground.data }], guard := none }) (v := ?_) rfl (by kernel_rfl) (by kernel_rfl) (by kernel_rfl) (fun _ _ _ h => h) (Or.inl ⟨by rfl, ?_⟩) trivial ?_
  rotate_left
  · intro W hSw
    go_simp
    try with_reducible rfl
  simp only [Act.put, List.setIfInBounds_toArray, List.set_cons_zero, List.set_cons_succ]
  refine wpAnyH_take (i := 4) (oi := { dst := some 30, op := Op.fieldAddr 27 (Operand.tmp 3) 2, type := 0, pos := "l15_talk.go:160", after := #[], guard := none }) (v := ?_) rfl (by kernel_rfl) (by kernel_rfl) (by kernel_rfl) (fun _ _ _ h => h) (Or.inl ⟨by rfl, ?_⟩) trivial ?_
  rotate_left
  · intro W hSw
    go_simp
    try with_reducible rfl
  simp only [Act.put, List.setIfInBounds_toArray, List.set_cons_zero, List.set_cons_succ]
  refine wpAnyH_two (i := 3) (j := 5) (by kernel_rfl) ?_ ?_
  · refine wpOp_step (o := { dst := some 29, op := Op.load 53 (Operand.tmp 28), type := 53, pos := "l15_talk.go:160", after := #[{ on := 2, ground := Ground.data }], guard := none }) rfl fun K' hK => step_valueW (by rfl) (peA (.slice A1 z.y.q.length r2) z.y.s z.y.e (.slice C1 z.y.i.length r3)) (w2) (by go_simp) ?_
    refine hK _ _ ⟨trivial, ?_⟩
    simp only [Act.put, List.setIfInBounds_toArray, List.set_cons_zero, List.set_cons_succ]
    refine wpAnyH_one (i := 5) (by kernel_rfl) ?_
    refine wpOp_step (o := { dst := some 31, op := Op.load 9 (Operand.tmp 30), type := 9, pos := "l15_talk.go:160", after := #[{ on := 4, ground := Ground.data }], guard := none }) rfl fun K' hK => step_valueW (by rfl) (.string tt) (w2) (by go_simp) ?_
    refine hK _ _ ⟨trivial, ?_⟩
    simp only [Act.put, List.setIfInBounds_toArray, List.set_cons_zero, List.set_cons_succ]
    refine wpAnyH_one (i := 6) (by kernel_rfl) ?_
    refine wpOp_step (o := { dst := some 32, op := Op.call { callee := Callee.value (Operand.func 94), args := #[Operand.tmp 29, Operand.tmp 31], argTypes := #[53, 9] }, type := 72, pos := "l15_talk.go:160", after := #[{ on := 3, ground := Ground.data }, { on := 5, ground := Ground.data }], guard := none }) rfl fun K' hK => step_enterW (by rfl) 94 #[peA (.slice A1 z.y.q.length r2) z.y.s z.y.e (.slice C1 z.y.i.length r3), .string tt] (by go_simp) ((unhide K _ _ ((unhide HV).below hS0)).mono ?_)
    rintro e w3 ⟨r, rfl, po, b3⟩
    have s3 := bl_st b3 hS0
    have PO := hide po
    obtain ⟨qq, ii, rfl, hq, hi, _⟩ := po
    obtain ⟨Aq, aq, rfl⟩ := hq.strs.slice
    obtain ⟨Ai, ai, rfl⟩ := hi.strs.slice
    clear hq hi

    refine ⟨_, rfl, hK _ _ ⟨trivial, ?_⟩⟩
    simp only [Act.put, List.setIfInBounds_toArray, List.set_cons_zero, List.set_cons_succ]
    refine wpAnyH_take (i := 7) (oi := { dst := some 25, op := Op.move (Operand.tmp 32), type := 72, pos := "l15_talk.go:160", after := #[{ on := 6, ground := Ground.data }], guard := none }) (v := ?_) rfl (by kernel_rfl) (by kernel_rfl) (by kernel_rfl) (fun _ _ _ h => h) (Or.inl ⟨by rfl, ?_⟩) trivial ?_
    rotate_left
    · intro W hSw
      go_simp
      try with_reducible rfl
    simp only [Act.put, List.setIfInBounds_toArray, List.set_cons_zero, List.set_cons_succ]
    refine wpAnyH_take (i := 8) (oi := { dst := some 33, op := Op.extract (Operand.tmp 25) 0, type := 53, pos := "l15_talk.go:160", after := #[{ on := 7, ground := Ground.data }], guard := none }) (v := ?_) rfl (by kernel_rfl) (by kernel_rfl) (by kernel_rfl) (fun _ _ _ h => h) (Or.inl ⟨by rfl, ?_⟩) trivial ?_
    rotate_left
    · intro W hSw
      go_simp
      try with_reducible rfl
    simp only [Act.put, List.setIfInBounds_toArray, List.set_cons_zero, List.set_cons_succ]
    refine wpAnyH_take (i := 9) (oi := { dst := some 34, op := Op.extract (Operand.tmp 25) 1, type := 3, pos := "l15_talk.go:160", after := #[{ on := 7, ground := Ground.data }, { on := 11, ground := Ground.gcOnly Departure.lateStores }], guard := none }) (v := ?_) rfl (by kernel_rfl) (by kernel_rfl) (by kernel_rfl) (fun _ _ _ h => h) (Or.inl ⟨by rfl, ?_⟩) trivial ?_
    rotate_left
    · intro W hSw
      go_simp
      try with_reducible rfl
    simp only [Act.put, List.setIfInBounds_toArray, List.set_cons_zero, List.set_cons_succ]
    refine wpAnyH_take (i := 10) (oi := { dst := some 35, op := Op.nilCheck (Operand.tmp 26), type := 0, pos := "l15_talk.go:160", after := #[{ on := 0, ground := Ground.data }, { on := 0, ground := Ground.phase }, { on := 1, ground := Ground.phase }, { on := 2, ground := Ground.phase }, { on := 3, ground := Ground.phase }, { on := 4, ground := Ground.phase }, { on := 5, ground := Ground.phase }, { on := 6, ground := Ground.phase }, { on := 7, ground := Ground.phase }, { on := 8, ground := Ground.phase }, { on := 9, ground := Ground.textOnly Departure.lateStores }], guard := none }) (v := ?_) rfl (by kernel_rfl) (by kernel_rfl) (by kernel_rfl) (fun _ _ _ h => h) (Or.inl ⟨by rfl, ?_⟩) trivial ?_
    rotate_left
    · intro W hSw
      go_simp
      try with_reducible rfl
    simp only [Act.put, List.setIfInBounds_toArray, List.set_cons_zero, List.set_cons_succ]
    have R3 := (unhide HR).below s3
    have f4 := R3.fz 4
    have f5 := R3.fz 5
    have f6 := R3.fz 6
    have f7 := R3.fz 7
    have k4 := R3.c4
    have k5 := R3.c5
    have k6 := R3.c6
    have k7 := R3.c7
    have HT3 := hide ((unhide HT).put4 s3 (peO.wide (unhide PO) hS0.size (Nat.le_refl _)) (unhide hsz))
    have HL3 := hide (((unhide HL).trans (Lone.of_below s3)).trans (lone_put w3 g 4 5 6 7 (.slice Aq y.q.length aq) (.int .i64 y.s) (.int .i64 y.e) (.slice Ai y.i.length ai)))
    refine wpAnyH_one (i := 11) (by kernel_rfl) ?_
    refine wpOp_step (o := { dst := none, op := Op.store 53 (Operand.tmp 35) (Operand.tmp 33), type := 0, pos := "l15_talk.go:160", after := #[{ on := 10, ground := Ground.data }, { on := 8, ground := Ground.data }, { on := 6, ground := Ground.chain }, { on := 0, ground := Ground.phase }, { on := 1, ground := Ground.phase }, { on := 2, ground := Ground.phase }, { on := 3, ground := Ground.phase }, { on := 4, ground := Ground.phase }, { on := 5, ground := Ground.phase }, { on := 6, ground := Ground.phase }, { on := 7, ground := Ground.phase }, { on := 8, ground := Ground.phase }, { on := 9, ground := Ground.textOnly Departure.lateStores }], guard := none }) rfl fun K' hK => step_skipW (by rfl) ((((w3.setCell ⟨g, 4, none⟩ (.slice Aq y.q.length aq)).setCell ⟨g, 5, none⟩ (.int .i64 y.s)).setCell ⟨g, 6, none⟩ (.int .i64 y.e)).setCell ⟨g, 7, none⟩ (.slice Ai y.i.length ai)) (by go_simp) ?_
    refine hK _ _ ⟨trivial, ?_⟩
    try simp only [Act.put]
    refine wpAnyH_one (i := 12) (by kernel_rfl) ?_
    refine wpOp_step (o := { dst := some 4, op := Op.assign (Operand.tmp 34), type := 3, pos := "l15_talk.go:160", after := #[{ on := 9, ground := Ground.data }, { on := 11, ground := Ground.chain }, { on := 0, ground := Ground.phase }, { on := 1, ground := Ground.phase }, { on := 2, ground := Ground.phase }, { on := 3, ground := Ground.phase }, { on := 4, ground := Ground.phase }, { on := 5, ground := Ground.phase }, { on := 6, ground := Ground.phase }, { on := 7, ground := Ground.phase }, { on := 8, ground := Ground.phase }, { on := 9, ground := Ground.phase }, { on := 10, ground := Ground.phase }, { on := 11, ground := Ground.phase }], guard := none }) rfl fun K' hK => step_valueW (by rfl) (.int .i64 cd) ((((w3.setCell ⟨g, 4, none⟩ (.slice Aq y.q.length aq)).setCell ⟨g, 5, none⟩ (.int .i64 y.s)).setCell ⟨g, 6, none⟩ (.int .i64 y.e)).setCell ⟨g, 7, none⟩ (.slice Ai y.i.length ai)) (by go_simp) ?_
    refine hK _ _ ⟨trivial, ?_⟩
    simp only [Act.put, List.setIfInBounds_toArray, List.set_cons_zero, List.set_cons_succ]
    refine wpAnyH_done (by kernel_rfl) ?_ _
    go_wp2
    go_ret
    rw [unhide HF]; exact ⟨rfl, unhide HT3, unhide HL3⟩
  · refine wpOp_step (o := { dst := some 31, op := Op.load 9 (Operand.tmp 30), type := 9, pos := "l15_talk.go:160", after := #[{ on := 4, ground := Ground.data }], guard := none }) rfl fun K' hK => step_valueW (by rfl) (.string tt) (w2) (by go_simp) ?_
    refine hK _ _ ⟨trivial, ?_⟩
    simp only [Act.put, List.setIfInBounds_toArray, List.set_cons_zero, List.set_cons_succ]
    refine wpAnyH_one (i := 3) (by kernel_rfl) ?_
    refine wpOp_step (o := { dst := some 29, op := Op.load 53 (Operand.tmp 28), type := 53, pos := "l15_talk.go:160", after := #[{ on := 2, ground := Ground.data }], guard := none }) rfl fun K' hK => step_valueW (by rfl) (peA (.slice A1 z.y.q.length r2) z.y.s z.y.e (.slice C1 z.y.i.length r3)) (w2) (by go_simp) ?_
    refine hK _ _ ⟨trivial, ?_⟩
    simp only [Act.put, List.setIfInBounds_toArray, List.set_cons_zero, List.set_cons_succ]
    refine wpAnyH_one (i := 6) (by kernel_rfl) ?_
    refine wpOp_step (o := { dst := some 32, op := Op.call { callee := Callee.value (Operand.func 94), args := #[Operand.tmp 29, Operand.tmp 31], argTypes := #[53, 9] }, type := 72, pos := "l15_talk.go:160", after := #[{ on := 3, ground := Ground.data }, { on := 5, ground := Ground.data }], guard := none }) rfl fun K' hK => step_enterW (by rfl) 94 #[peA (.slice A1 z.y.q.length r2) z.y.s z.y.e (.slice C1 z.y.i.length r3), .string tt] (by go_simp) ((unhide K _ _ ((unhide HV).below hS0)).mono ?_)
    rintro e w3 ⟨r, rfl, po, b3⟩
    have s3 := bl_st b3 hS0
    have PO := hide po
    obtain ⟨qq, ii, rfl, hq, hi, _⟩ := po
    obtain ⟨Aq, aq, rfl⟩ := hq.strs.slice
    obtain ⟨Ai, ai, rfl⟩ := hi.strs.slice
    clear hq hi

    refine ⟨_, rfl, hK _ _ ⟨trivial, ?_⟩⟩
    simp only [Act.put, List.setIfInBounds_toArray, List.set_cons_zero, List.set_cons_succ]
    refine wpAnyH_take (i := 7) (oi := { dst := some 25, op := Op.move (Operand.tmp 32), type := 72, pos := "l15_talk.go:160", after := #[{ on := 6, ground := Ground.data }], guard := none }) (v := ?_) rfl (by kernel_rfl) (by kernel_rfl) (by kernel_rfl) (fun _ _ _ h => h) (Or.inl ⟨by rfl, ?_⟩) trivial ?_
    rotate_left
    · intro W hSw
      go_simp
      try with_reducible rfl
    simp only [Act.put, List.setIfInBounds_toArray, List.set_cons_zero, List.set_cons_succ]
    refine wpAnyH_take (i := 8) (oi := { dst := some 33, op := Op.extract (Operand.tmp 25) 0, type := 53, pos := "l15_talk.go:160", after := #[{ on := 7, ground := Ground.data }], guard := none }) (v := ?_) rfl (by kernel_rfl) (by kernel_rfl) (by kernel_rfl) (fun _ _ _ h => h) (Or.inl ⟨by rfl, ?_⟩) trivial ?_
    rotate_left
    · intro W hSw
      go_simp
      try with_reducible rfl
    simp only [Act.put, List.setIfInBounds_toArray, List.set_cons_zero, List.set_cons_succ]
    refine wpAnyH_take (i := 9) (oi := { dst := some 34, op := Op.extract (Operand.tmp 25) 1, type := 3, pos := "l15_talk.go:160", after := #[{ on := 7, ground := Ground.data }, { on := 11, ground := Ground.gcOnly Departure.lateStores }], guard := none }) (v := ?_) rfl (by kernel_rfl) (by kernel_rfl) (by kernel_rfl) (fun _ _ _ h => h) (Or.inl ⟨by rfl, ?_⟩) trivial ?_
    rotate_left
    · intro W hSw
      go_simp
      try with_reducible rfl
    simp only [Act.put, List.setIfInBounds_toArray, List.set_cons_zero, List.set_cons_succ]
    refine wpAnyH_take (i := 10) (oi := { dst := some 35, op := Op.nilCheck (Operand.tmp 26), type := 0, pos := "l15_talk.go:160", after := #[{ on := 0, ground := Ground.data }, { on := 0, ground := Ground.phase }, { on := 1, ground := Ground.phase }, { on := 2, ground := Ground.phase }, { on := 3, ground := Ground.phase }, { on := 4, ground := Ground.phase }, { on := 5, ground := Ground.phase }, { on := 6, ground := Ground.phase }, { on := 7, ground := Ground.phase }, { on := 8, ground := Ground.phase }, { on := 9, ground := Ground.textOnly Departure.lateStores }], guard := none }) (v := ?_) rfl (by kernel_rfl) (by kernel_rfl) (by kernel_rfl) (fun _ _ _ h => h) (Or.inl ⟨by rfl, ?_⟩) trivial ?_
    rotate_left
    · intro W hSw
      go_simp
      try with_reducible rfl
    simp only [Act.put, List.setIfInBounds_toArray, List.set_cons_zero, List.set_cons_succ]
    have R3 := (unhide HR).below s3
    have f4 := R3.fz 4
    have f5 := R3.fz 5
    have f6 := R3.fz 6
    have f7 := R3.fz 7
    have k4 := R3.c4
    have k5 := R3.c5
    have k6 := R3.c6
    have k7 := R3.c7
    have HT3 := hide ((unhide HT).put4 s3 (peO.wide (unhide PO) hS0.size (Nat.le_refl _)) (unhide hsz))
    have HL3 := hide (((unhide HL).trans (Lone.of_below s3)).trans (lone_put w3 g 4 5 6 7 (.slice Aq y.q.length aq) (.int .i64 y.s) (.int .i64 y.e) (.slice Ai y.i.length ai)))
    refine wpAnyH_one (i := 11) (by kernel_rfl) ?_
    refine wpOp_step (o := { dst := none, op := Op.store 53 (Operand.tmp 35) (Operand.tmp 33), type := 0, pos := "l15_talk.go:160", after := #[{ on := 10, ground := Ground.data }, { on := 8, ground := Ground.data }, { on := 6, ground := Ground.chain }, { on := 0, ground := Ground.phase }, { on := 1, ground := Ground.phase }, { on := 2, ground := Ground.phase }, { on := 3, ground := Ground.phase }, { on := 4, ground := Ground.phase }, { on := 5, ground := Ground.phase }, { on := 6, ground := Ground.phase }, { on := 7, ground := Ground.phase }, { on := 8, ground := Ground.phase }, { on := 9, ground := Ground.textOnly Departure.lateStores }], guard := none }) rfl fun K' hK => step_skipW (by rfl) ((((w3.setCell ⟨g, 4, none⟩ (.slice Aq y.q.length aq)).setCell ⟨g, 5, none⟩ (.int .i64 y.s)).setCell ⟨g, 6, none⟩ (.int .i64 y.e)).setCell ⟨g, 7, none⟩ (.slice Ai y.i.length ai)) (by go_simp) ?_
    refine hK _ _ ⟨trivial, ?_⟩
    try simp only [Act.put]
    refine wpAnyH_one (i := 12) (by kernel_rfl) ?_
    refine wpOp_step (o := { dst := some 4, op := Op.assign (Operand.tmp 34), type := 3, pos := "l15_talk.go:160", after := #[{ on := 9, ground := Ground.data }, { on := 11, ground := Ground.chain }, { on := 0, ground := Ground.phase }, { on := 1, ground := Ground.phase }, { on := 2, ground := Ground.phase }, { on := 3, ground := Ground.phase }, { on := 4, ground := Ground.phase }, { on := 5, ground := Ground.phase }, { on := 6, ground := Ground.phase }, { on := 7, ground := Ground.phase }, { on := 8, ground := Ground.phase }, { on := 9, ground := Ground.phase }, { on := 10, ground := Ground.phase }, { on := 11, ground := Ground.phase }], guard := none }) rfl fun K' hK => step_valueW (by rfl) (.int .i64 cd) ((((w3.setCell ⟨g, 4, none⟩ (.slice Aq y.q.length aq)).setCell ⟨g, 5, none⟩ (.int .i64 y.s)).setCell ⟨g, 6, none⟩ (.int .i64 y.e)).setCell ⟨g, 7, none⟩ (.slice Ai y.i.length ai)) (by go_simp) ?_
    refine hK _ _ ⟨trivial, ?_⟩
    simp only [Act.put, List.setIfInBounds_toArray, List.set_cons_zero, List.set_cons_succ]
    refine wpAnyH_done (by kernel_rfl) ?_ _
    go_wp2
    go_ret
    rw [unhide HF]; exact ⟨rfl, unhide HT3, unhide HL3⟩
end Go.Proofs.YtbkcgkffafjbgaaGreatDoor
