/- One act of two, by the program. -/
import Derived.Test.YtbkcgkffafjbgaaGreatDoorRnd
namespace Go.Proofs.YtbkcgkffafjbgaaGreatDoor
open Go.RowKit
set_option maxHeartbeats 4000000
set_option maxRecDepth 20000
set_option linter.unusedVariables false
theorem alone79 (base g : Nat) (z : Tw) (a : Ta) (w : World) (h : TwO base g z w) (hB : base ≤ w.heap.size) (hk : a.k = 1 ∨ a.k = 3) (ox : peOK z.x = true) (oy : peOK z.y = true) (fx : peFew z.x) (fy : peFew z.y) (ht : a.t.size ≤ 65536) :
    Calls Tryz.prog 80 #[.slice (some ⟨g, 0, none⟩) 2 2, taA a.k a.w a.t a.la a.lb] w fun e w' => e = .returned (.int .i64 (stepF z a).2) ∧ TwO base g (stepF z a).1 w' ∧ Lone g w w' := by
  by_cases h0 : a.w = 0
  · rcases hk with hk | hk
    · exact alone_say0 base g z a w h hB hk h0 ox fx ht
    · rcases Nat.eq_zero_or_pos z.x.q.length with hq | hq
      · exact alone_hang0e base g z a w h hB hk h0 hq
      · exact alone_hang0 base g z a w h hB hk h0 hq fx.1
  by_cases h1 : a.w = 1
  · rcases hk with hk | hk
    · exact alone_say1 base g z a w h hB hk h1 oy fy ht
    · rcases Nat.eq_zero_or_pos z.y.q.length with hq | hq
      · exact alone_hang1e base g z a w h hB hk h1 hq
      · exact alone_hang1 base g z a w h hB hk h1 hq fy.1
  exact alone_no base g z a w h hB hk (by omega)
theorem do47 (base g : Nat) (z : Tw) (a : Ta) (w : World) (h : TwO base g z w) (hB : base ≤ w.heap.size) (ox : peOK z.x = true) (oy : peOK z.y = true) (fx : peFew z.x) (fy : peFew z.y) (ht : a.t.size ≤ 65536) :
    Calls Tryz.prog 61 #[.slice (some ⟨g, 0, none⟩) 2 2, taA a.k a.w a.t a.la a.lb] w fun e w' => e = .returned (.int .i64 (stepF z a).2) ∧ TwO base g (stepF z a).1 w' ∧ Lone g w w' := by
  have sB : Below w.heap.size w (w.alloc (.cells #[.int .i64 a.k, .int .i64 a.w, .string a.t, .bool a.la, .bool a.lb] 27)) := bl_al (Below.refl _ _)
  have HL : Hid (Lone g w (w.alloc (.cells #[.int .i64 a.k, .int .i64 a.w, .string a.t, .bool a.la, .bool a.lb] 27))) := hide (Lone.of_below sB)
  have HT := hide (h.below sB)
  have hB2 : base ≤ (w.alloc (.cells #[.int .i64 a.k, .int .i64 a.w, .string a.t, .bool a.la, .bool a.lb] 27)).heap.size := Nat.le_trans hB sB.size
  by_cases hk : a.k = 1 ∨ a.k = 3
  · have K := hide (alone79 base g z a _ (h.below sB) hB2 hk ox oy fx fy ht)
    generalize stepF z a = s at *
    clear h hB ox oy fx fy ht sB hB2
    obtain ⟨k, wh, tt, la, lb⟩ := a
    dsimp only at *
    rcases hk with rfl | rfl
    · go_enter Tryz.func61, Tryz.ntmps61
      go_wp2_with (go_at_call 80; refine (unhide K).mono ?_; rintro e w' ⟨rfl, ht', hl'⟩)
      go_ret
      exact ⟨rfl, ht', (unhide HL).trans hl'⟩
    · go_enter Tryz.func61, Tryz.ntmps61
      go_wp2_with (go_at_call 80; refine (unhide K).mono ?_; rintro e w' ⟨rfl, ht', hl'⟩)
      go_ret
      exact ⟨rfl, ht', (unhide HL).trans hl'⟩
  · have n1 : a.k ≠ 1 := fun e => hk (Or.inl e)
    have n3 : a.k ≠ 3 := fun e => hk (Or.inr e)
    have k1 : (a.k == 1) = false := by simpa using n1
    have k3 : (a.k == 3) = false := by simpa using n3
    by_cases h2 : a.k = 2
    · have K := hide (rnd_one base g z a _ (h.below sB) hB2 ox oy fx fy)
      have HF := hide (show stepF z a = (rndF z a.la a.lb, 0) by unfold stepF; rw [if_neg n1, if_pos h2])
      obtain ⟨k, wh, tt, la, lb⟩ := a
      dsimp only at *
      subst h2
      clear h hB ox oy fx fy ht sB hB2 hk n1 n3 k1 k3
      go_enter Tryz.func61, Tryz.ntmps61
      go_wp2_with (go_at_call 81; refine (unhide K).mono ?_; rintro e w' ⟨rfl, ht', hl'⟩)
      go_ret
      rw [unhide HF]
      exact ⟨rfl, ht', (unhide HL).trans hl'⟩
    · have HF := hide (show stepF z a = (z, 3) by unfold stepF; rw [if_neg n1, if_neg h2, if_neg n3])
      have k2 : (a.k == 2) = false := by simpa using h2
      clear h hB ox oy fx fy ht sB hB2 hk n1 n3 h2
      obtain ⟨k, wh, tt, la, lb⟩ := a
      dsimp only at *
      go_enter Tryz.func61, Tryz.ntmps61
      go_wp2
      go_ret
      rw [unhide HF]
      exact ⟨rfl, unhide HT, unhide HL⟩
end Go.Proofs.YtbkcgkffafjbgaaGreatDoor
