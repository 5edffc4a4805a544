/- What one of two does without the other, by the program. -/
import Derived.Test.YtbkcgkffafjbgaaGreatDoorGg
namespace Go.Proofs.YtbkcgkffafjbgaaGreatDoor
open Go.RowKit
set_option maxHeartbeats 4000000
set_option maxRecDepth 20000
set_option linter.unusedVariables false
theorem alone_no (base g : Nat) (z : Tw) (a : Ta) (w : World) (h : TwO base g z w) (hB : base ≤ w.heap.size) (hk : a.k = 1 ∨ a.k = 3) (hw : a.w < 0 ∨ 2 ≤ a.w) :
    Calls Tryz.prog 80 #[.slice (some ⟨g, 0, none⟩) 2 2, taA a.k a.w a.t a.la a.lb] w fun e w' => e = .returned (.int .i64 (stepF z a).2) ∧ TwO base g (stepF z a).1 w' ∧ Lone g w w' := by
  have HF := hide (show stepF z a = (z, 4) by
    have : okW a.w = false := by unfold okW; rcases hw with h | h <;> simp <;> omega
    unfold stepF; rcases hk with e | e <;> rw [e] <;> simp [this])
  have HT := hide (h.below (bl_al (o := .cells #[.int .i64 a.k, .int .i64 a.w, .string a.t, .bool a.la, .bool a.lb] 27) (Below.refl _ _)))
  have HL : Hid (Lone g w (w.alloc (.cells #[.int .i64 a.k, .int .i64 a.w, .string a.t, .bool a.la, .bool a.lb] 27))) := hide (Lone.of_below (bl_al (Below.refl _ _)))
  clear h hk
  rcases hw with hw | hw
  · go_enter Tryz.func80, Tryz.ntmps80
    go_wp2
    go_ret
    rw [unhide HF]; exact ⟨rfl, unhide HT, unhide HL⟩
  · go_enter Tryz.func80, Tryz.ntmps80
    go_wp2
    all_goals go_ret
    all_goals (rw [unhide HF]; exact ⟨rfl, unhide HT, unhide HL⟩)
theorem alone_hang0e (base g : Nat) (z : Tw) (a : Ta) (w : World) (h : TwO base g z w) (hB : base ≤ w.heap.size) (hk : a.k = 3) (hw : a.w = 0) (hq : z.x.q.length = 0) :
    Calls Tryz.prog 80 #[.slice (some ⟨g, 0, none⟩) 2 2, taA a.k a.w a.t a.la a.lb] w fun e w' => e = .returned (.int .i64 (stepF z a).2) ∧ TwO base g (stepF z a).1 w' ∧ Lone g w w' := by
  have HF := hide (show stepF z a = (z, 5) by
    unfold stepF; rw [hk, hw]; simp [okW, Tw.at, hq])
  have HT := hide (h.below (bl_al (o := .cells #[.int .i64 a.k, .int .i64 a.w, .string a.t, .bool a.la, .bool a.lb] 27) (Below.refl _ _)))
  have HL : Hid (Lone g w (w.alloc (.cells #[.int .i64 a.k, .int .i64 a.w, .string a.t, .bool a.la, .bool a.lb] 27))) := hide (Lone.of_below (bl_al (Below.refl _ _)))
  obtain ⟨q0, i0, q1, i1, lo0, hi0, lo1, hi1, hr, hx, hy, gb, b0, b1, z0, z1, dj⟩ := unhide HT
  have ⟨A0, r0, C0, r1, e0⟩ := hx.pe.slices
  have ⟨A1, r2, C1, r3, e1⟩ := hy.pe.slices
  obtain ⟨rfl, rfl⟩ := peA_inj e0
  obtain ⟨rfl, rfl⟩ := peA_inj e1
  have HN := hide (heap_alloc_new w (.cells #[.int .i64 a.k, .int .i64 a.w, .string a.t, .bool a.la, .bool a.lb] 27))
  have gl := h.choose_spec
  clear e0 e1 gl
  have c := hr.c0
  rw [hq] at c
  have K := hide (hang87e g 0 A0 r0 _ c)
  obtain ⟨k, wh, tt, la, lb⟩ := a
  dsimp only at *
  subst hk hw
  clear h hr hx hy c
  go_enter Tryz.func80, Tryz.ntmps80
  go_wp2_with (go_at_call 93; refine (unhide K).mono ?_; rintro e w' ⟨rfl, rfl⟩)
  go_ret
  rw [unhide HF]; exact ⟨rfl, unhide HT, unhide HL⟩
theorem alone_hang0 (base g : Nat) (z : Tw) (a : Ta) (w : World) (h : TwO base g z w) (hB : base ≤ w.heap.size) (hk : a.k = 3) (hw : a.w = 0) (hq : 1 ≤ z.x.q.length) (hm : z.x.q.length ≤ 1048576) :
    Calls Tryz.prog 80 #[.slice (some ⟨g, 0, none⟩) 2 2, taA a.k a.w a.t a.la a.lb] w fun e w' => e = .returned (.int .i64 (stepF z a).2) ∧ TwO base g (stepF z a).1 w' ∧ Lone g w w' := by
  have HF := hide (show stepF z a = ((⟨⟨z.x.q.take 1, z.x.s, z.x.e, z.x.i⟩, z.y⟩ : Tw), 0) by
    unfold stepF; rw [hk, hw]; simp [okW, Tw.at, Tw.put]; intro e; rw [e] at hq; simp at hq)
  have HT := hide (h.below (bl_al (o := .cells #[.int .i64 a.k, .int .i64 a.w, .string a.t, .bool a.la, .bool a.lb] 27) (Below.refl _ _)))
  have HL : Hid (Lone g w (w.alloc (.cells #[.int .i64 a.k, .int .i64 a.w, .string a.t, .bool a.la, .bool a.lb] 27))) := hide (Lone.of_below (bl_al (Below.refl _ _)))
  obtain ⟨q0, i0, q1, i1, lo0, hi0, lo1, hi1, hr, hx, hy, gb, b0, b1, z0, z1, dj⟩ := unhide HT
  have ⟨A0, r0, C0, r1, e0⟩ := hx.pe.slices
  have ⟨A1, r2, C1, r3, e1⟩ := hy.pe.slices
  obtain ⟨rfl, rfl⟩ := peA_inj e0
  obtain ⟨rfl, rfl⟩ := peA_inj e1
  have HN := hide (heap_alloc_new w (.cells #[.int .i64 a.k, .int .i64 a.w, .string a.t, .bool a.la, .bool a.lb] 27))
  have gl := h.choose_spec
  clear e0 e1 gl
  have hcap : z.x.q.length ≤ r0 := by
    obtain ⟨q', i', e, h1, _, _⟩ := hx
    obtain ⟨rfl, rfl⟩ := peA_inj e
    obtain ⟨A', c', e, hc⟩ := h1.cap
    injection e with _ _ e; omega
  have K := hide (hang87 g 0 A0 z.x.q.length r0 _ hr.c0 (hr.fz 0) hq hcap hm)
  have L := lone_setCell g 0 (w.alloc (.cells #[.int .i64 a.k, .int .i64 a.w, .string a.t, .bool a.la, .bool a.lb] 27)) (.slice A0 1 r0)
  have HT2 : Hid (TwO base g (⟨⟨z.x.q.take 1, z.x.s, z.x.e, z.x.i⟩, z.y⟩ : Tw) ((w.alloc (.cells #[.int .i64 a.k, .int .i64 a.w, .string a.t, .bool a.la, .bool a.lb] 27)).setCell ⟨g, 0, none⟩ (.slice A0 1 r0))) := hide ⟨_, _, _, _, lo0, hi0, lo1, hi1, hr.set0 (.slice A0 1 r0), (hx.hang hq).lone L (by omega), hy.lone L (by omega), gb, b0, b1, by rw [size_set]; exact z0, by rw [size_set]; exact z1, dj⟩
  have HL2 := hide ((unhide HL).trans L)
  obtain ⟨k, wh, tt, la, lb⟩ := a
  dsimp only at *
  subst hk hw
  clear h hr hx hy L hq hm hcap
  go_enter Tryz.func80, Tryz.ntmps80
  go_wp2_with (go_at_call 93; refine (unhide K).mono ?_; rintro e w' ⟨rfl, rfl⟩)
  go_ret
  rw [unhide HF]; exact ⟨rfl, unhide HT2, unhide HL2⟩
theorem alone_hang1e (base g : Nat) (z : Tw) (a : Ta) (w : World) (h : TwO base g z w) (hB : base ≤ w.heap.size) (hk : a.k = 3) (hw : a.w = 1) (hq : z.y.q.length = 0) :
    Calls Tryz.prog 80 #[.slice (some ⟨g, 0, none⟩) 2 2, taA a.k a.w a.t a.la a.lb] w fun e w' => e = .returned (.int .i64 (stepF z a).2) ∧ TwO base g (stepF z a).1 w' ∧ Lone g w w' := by
  have HF := hide (show stepF z a = (z, 5) by
    unfold stepF; rw [hk, hw]; simp [okW, Tw.at, hq])
  have HT := hide (h.below (bl_al (o := .cells #[.int .i64 a.k, .int .i64 a.w, .string a.t, .bool a.la, .bool a.lb] 27) (Below.refl _ _)))
  have HL : Hid (Lone g w (w.alloc (.cells #[.int .i64 a.k, .int .i64 a.w, .string a.t, .bool a.la, .bool a.lb] 27))) := hide (Lone.of_below (bl_al (Below.refl _ _)))
  obtain ⟨q0, i0, q1, i1, lo0, hi0, lo1, hi1, hr, hx, hy, gb, b0, b1, z0, z1, dj⟩ := unhide HT
  have ⟨A0, r0, C0, r1, e0⟩ := hx.pe.slices
  have ⟨A1, r2, C1, r3, e1⟩ := hy.pe.slices
  obtain ⟨rfl, rfl⟩ := peA_inj e0
  obtain ⟨rfl, rfl⟩ := peA_inj e1
  have HN := hide (heap_alloc_new w (.cells #[.int .i64 a.k, .int .i64 a.w, .string a.t, .bool a.la, .bool a.lb] 27))
  have gl := h.choose_spec
  clear e0 e1 gl
  have c := hr.c4
  rw [hq] at c
  have K := hide (hang87e g 4 A1 r2 _ c)
  obtain ⟨k, wh, tt, la, lb⟩ := a
  dsimp only at *
  subst hk hw
  clear h hr hx hy c
  go_enter Tryz.func80, Tryz.ntmps80
  go_wp2_with (go_at_call 93; refine (unhide K).mono ?_; rintro e w' ⟨rfl, rfl⟩)
  go_ret
  rw [unhide HF]; exact ⟨rfl, unhide HT, unhide HL⟩
theorem alone_hang1 (base g : Nat) (z : Tw) (a : Ta) (w : World) (h : TwO base g z w) (hB : base ≤ w.heap.size) (hk : a.k = 3) (hw : a.w = 1) (hq : 1 ≤ z.y.q.length) (hm : z.y.q.length ≤ 1048576) :
    Calls Tryz.prog 80 #[.slice (some ⟨g, 0, none⟩) 2 2, taA a.k a.w a.t a.la a.lb] w fun e w' => e = .returned (.int .i64 (stepF z a).2) ∧ TwO base g (stepF z a).1 w' ∧ Lone g w w' := by
  have HF := hide (show stepF z a = ((⟨z.x, ⟨z.y.q.take 1, z.y.s, z.y.e, z.y.i⟩⟩ : Tw), 0) by
    unfold stepF; rw [hk, hw]; simp [okW, Tw.at, Tw.put]; intro e; rw [e] at hq; simp at hq)
  have HT := hide (h.below (bl_al (o := .cells #[.int .i64 a.k, .int .i64 a.w, .string a.t, .bool a.la, .bool a.lb] 27) (Below.refl _ _)))
  have HL : Hid (Lone g w (w.alloc (.cells #[.int .i64 a.k, .int .i64 a.w, .string a.t, .bool a.la, .bool a.lb] 27))) := hide (Lone.of_below (bl_al (Below.refl _ _)))
  obtain ⟨q0, i0, q1, i1, lo0, hi0, lo1, hi1, hr, hx, hy, gb, b0, b1, z0, z1, dj⟩ := unhide HT
  have ⟨A0, r0, C0, r1, e0⟩ := hx.pe.slices
  have ⟨A1, r2, C1, r3, e1⟩ := hy.pe.slices
  obtain ⟨rfl, rfl⟩ := peA_inj e0
  obtain ⟨rfl, rfl⟩ := peA_inj e1
  have HN := hide (heap_alloc_new w (.cells #[.int .i64 a.k, .int .i64 a.w, .string a.t, .bool a.la, .bool a.lb] 27))
  have gl := h.choose_spec
  clear e0 e1 gl
  have hcap : z.y.q.length ≤ r2 := by
    obtain ⟨q', i', e, h1, _, _⟩ := hy
    obtain ⟨rfl, rfl⟩ := peA_inj e
    obtain ⟨A', c', e, hc⟩ := h1.cap
    injection e with _ _ e; omega
  have K := hide (hang87 g 4 A1 z.y.q.length r2 _ hr.c4 (hr.fz 4) hq hcap hm)
  have L := lone_setCell g 4 (w.alloc (.cells #[.int .i64 a.k, .int .i64 a.w, .string a.t, .bool a.la, .bool a.lb] 27)) (.slice A1 1 r2)
  have HT2 : Hid (TwO base g (⟨z.x, ⟨z.y.q.take 1, z.y.s, z.y.e, z.y.i⟩⟩ : Tw) ((w.alloc (.cells #[.int .i64 a.k, .int .i64 a.w, .string a.t, .bool a.la, .bool a.lb] 27)).setCell ⟨g, 4, none⟩ (.slice A1 1 r2))) := hide ⟨_, _, _, _, lo0, hi0, lo1, hi1, hr.set4 (.slice A1 1 r2), hx.lone L (by omega), (hy.hang hq).lone L (by omega), gb, b0, b1, by rw [size_set]; exact z0, by rw [size_set]; exact z1, dj⟩
  have HL2 := hide ((unhide HL).trans L)
  obtain ⟨k, wh, tt, la, lb⟩ := a
  dsimp only at *
  subst hk hw
  clear h hr hx hy L hq hm hcap
  go_enter Tryz.func80, Tryz.ntmps80
  go_wp2_with (go_at_call 93; refine (unhide K).mono ?_; rintro e w' ⟨rfl, rfl⟩)
  go_ret
  rw [unhide HF]; exact ⟨rfl, unhide HT2, unhide HL2⟩
end Go.Proofs.YtbkcgkffafjbgaaGreatDoor
