/- A script's code, by the program. -/
import Derived.Test.YthonnlifgdnacaaDo
namespace Go.Proofs.Ythonnlifgdnacaa
open Go.RowKit
set_option maxHeartbeats 4000000
set_option maxRecDepth 20000
set_option linter.unusedVariables false
theorem long76 (A : Option Addr) (n cap : Nat) (w : World) (hn : n ≤ maxLen) (b : Bool) (hb : decide (4096 < n) = b) :
    Calls Try.prog 76 #[.slice A n cap] w fun e w' => e = .returned (.bool b) ∧ w' = w := by
  unfold maxLen at hn
  have z1 : (n : Int) ≤ 9223372036854775807 := by omega
  cases b
  · have h := of_decide_eq_false hb
    have q1 : (n : Int) ≤ 4096 := by omega
    clear hn hb h
    go_enter Try.func76, Try.ntmps76
    go_wp2
    go_ret
    exact ⟨congrArg (fun x => Ending.returned (.bool x)) (decide_eq_false (Int.not_lt.2 q1)), rfl⟩
  · have h := of_decide_eq_true hb
    have q1 : (4096 : Int) < (n : Int) := by omega
    clear hn hb h
    go_enter Try.func76, Try.ntmps76
    go_wp2
    go_ret
    exact ⟨rfl, rfl⟩
theorem text78 (a : Ta) (w : World) (ht : a.t.size ≤ maxLen) :
    Calls Try.prog 78 #[taA a.k a.w a.t a.la a.lb] w fun e w' => e = .returned (.bool (decide (65536 < a.t.size))) ∧ Below w.heap.size w w' := by
  obtain ⟨k, wh, t, la, lb⟩ := a
  dsimp only at *
  have K := hide (fun b W h => long58 b t W h ht)
  have HB : Hid (Below w.heap.size w ((w.alloc (.cells #[.int .i64 k, .int .i64 wh, .string t, .bool la, .bool lb] 35)).alloc (.cells #[.string t] 9))) := hide (bl_al (bl_al (Below.refl _ _)))
  have C : Hid (((w.alloc (.cells #[.int .i64 k, .int .i64 wh, .string t, .bool la, .bool lb] 35)).alloc (.cells #[.string t] 9)).cell? ⟨w.heap.size + 1, 0, none⟩ = some (.string t)) := hide (by
    rw [row_cell (t := w.heap.size + 1) (heap_at _ _ _ (by simp))]; rfl)
  generalize decide (65536 < t.size) = b at *
  clear ht
  go_enter Try.func78, Try.ntmps78
  go_wp2_with (go_at_call 58; refine (unhide K _ _ (unhide C)).mono ?_; rintro e w' ⟨rfl, rfl⟩)
  go_ret
  exact ⟨rfl, unhide HB⟩
abbrev fn78 : Value := .func (.func 78) #[] #[]
/-- the first act whose text is too long -/
def badT : List Ta → Nat → Int
  | [], _ => -1
  | a :: l, j => if 65536 < a.t.size then (j : Int) else badT l (j + 1)
theorem badT_ge : ∀ (l : List Ta) (j : Nat), (badT l j = -1 ∧ l.any (fun a => decide (65536 < a.t.size)) = false) ∨ (0 ≤ badT l j ∧ l.any (fun a => decide (65536 < a.t.size)) = true)
  | [], _ => Or.inl ⟨rfl, rfl⟩
  | a :: l, j => by
    unfold badT
    rw [List.any_cons]
    by_cases h : 65536 < a.t.size
    · rw [if_pos h]; exact Or.inr ⟨by omega, by simp [h]⟩
    · rw [if_neg h]
      rcases badT_ge l (j + 1) with ⟨e, h2⟩ | ⟨e, h2⟩
      · exact Or.inl ⟨e, by simp [h, h2]⟩
      · exact Or.inr ⟨e, by simp [h, h2]⟩
theorem badT_step {al : List Ta} {j : Nat} (h : j < al.length) : badT (al.drop j) j = if 65536 < (al.getD j ta0).t.size then (j : Int) else badT (al.drop (j + 1)) (j + 1) := by
  rw [List.drop_eq_getElem_cons h, badT, List.getD_eq_getElem?_getD, List.getElem?_eq_getElem h]; rfl
theorem idx86 (v : Value) (al : List Ta) (w : World) (hv : actsV w v al) (hl : al.length ≤ 4096) (ht : ∀ a ∈ al, a.t.size ≤ maxLen) :
    Calls Try.prog 86 #[v, fn78] w fun e w' => e = .returned (.int .i64 (badT al 0)) ∧ Below w.heap.size w w' := by
  obtain ⟨A, cap, rfl, hc⟩ := hv
  have HC := hide hc
  have HT := hide (fun a (ha : a ∈ al) W => text78 a W (ht a ha))
  obtain ⟨n, hn⟩ : ∃ n, n = al.length := ⟨_, rfl⟩
  have HN := hide hn
  have z1 : (n : Int) ≤ 4096 := by omega
  rw [← hn]
  clear hc ht hl hn
  go_enter Try.func86, Try.ntmps86
  go_wp2
  go_loopw [8] (fun i wr => ∃ j : Nat, j ≤ n ∧ i = .int .i64 j ∧ badT (al.drop j) j = badT al 0 ∧ Below w.heap.size w wr) (fun i _ => n - (intOf i).toNat)
  case atStart => exact ⟨0, by omega, rfl, rfl, Below.refl _ _⟩
  case round =>
    obtain ⟨j, hj, rfl, hbad, hb⟩ := hrel
    have HB := hide hb
    rcases Nat.lt_or_ge j n with hlt | hge
    · have hlen : j < al.length := by have := unhide HN; omega
      obtain ⟨b, off, hA, hbl, hcc⟩ := unhide HC (by omega)
      subst hA
      have q1 : (j : Int) < (n : Int) := by omega
      have q0 : (0 : Int) ≤ (j : Int) := by omega
      obtain ⟨c0, c1, c2, c3, c4⟩ := (hcc j hlen).below hb hbl
      have hs := badT_step hlen
      rw [hbad] at hs
      have K := hide (unhide HT (al.getD j ta0) (by rw [List.getD_eq_getElem?_getD, List.getElem?_eq_getElem hlen]; simp) wr)
      have HS := hide hs
      have HL := hide hlt
      generalize al.getD j ta0 = a at *
      obtain ⟨k, wh, t, la, lb⟩ := a
      dsimp only at *
      clear hcc hs hbad hb hlt hlen hj
      cases hd : decide (65536 < t.size) with
      | true =>
        rw [hd] at K
        go_wp2_with (go_at_call 78; refine (unhide K).mono ?_; rintro e w' ⟨rfl, hb2⟩)
        go_ret
        rw [unhide HS, if_pos (of_decide_eq_true hd)]
        exact ⟨rfl, bl_st hb2 (unhide HB)⟩
      | false =>
        rw [hd] at K
        go_wp2_with (go_at_call 78; refine (unhide K).mono ?_; rintro e w' ⟨rfl, hb2⟩; have HB2 := hide (bl_st hb2 (unhide HB)); clear hb2)
        refine ⟨⟨j + 1, by have := unhide HL; omega, by go_num, ?_, unhide HB2⟩, ?_⟩
        · rw [unhide HS, if_neg (of_decide_eq_false hd)]
        · have := unhide HL; simp [intOf]; omega
    · have q1 : (n : Int) ≤ (j : Int) := by omega
      have HS : Hid (badT al 0 = -1) := hide (by rw [← hbad, List.drop_eq_nil_of_le (by have := unhide HN; omega)]; rfl)
      clear hbad hb hge hj
      go_wp2
      go_ret
      rw [unhide HS]
      exact ⟨rfl, unhide HB⟩
theorem has77 (v : Value) (al : List Ta) (w : World) (hv : actsV w v al) (hl : al.length ≤ 4096) (ht : ∀ a ∈ al, a.t.size ≤ maxLen) :
    Calls Try.prog 77 #[v, fn78] w fun e w' => e = .returned (.bool (al.any fun a => decide (65536 < a.t.size))) ∧ Below w.heap.size w w' := by
  have K := hide (idx86 v al w hv hl ht)
  obtain ⟨A, cap, rfl⟩ := hv.slice
  rcases badT_ge al 0 with ⟨e, h⟩ | ⟨e, h⟩
  · rw [h]
    rw [e] at K
    clear hv ht h e hl
    generalize al.length = n at *
    go_enter Try.func77, Try.ntmps77
    go_wp2_with (go_at_call 86; refine (unhide K).mono ?_; rintro e w' ⟨rfl, hb2⟩)
    go_ret
    exact ⟨rfl, hb2⟩
  · rw [h]
    generalize badT al 0 = x at *
    clear hv ht h hl
    generalize al.length = n at *
    go_enter Try.func77, Try.ntmps77
    go_wp2_with (go_at_call 86; refine (unhide K).mono ?_; rintro e w' ⟨rfl, hb2⟩)
    go_ret
    exact ⟨by simp, hb2⟩
theorem script46 (v : Value) (al : List Ta) (w : World) (hv : actsV w v al) (hl : al.length ≤ maxLen) (ht : ∀ a ∈ al, a.t.size ≤ maxLen) :
    Calls Try.prog 46 #[v] w fun e w' => e = .returned (.int .i64 (tkC al)) ∧ Below w.heap.size w w' := by
  have HV := hide hv
  obtain ⟨A, cap, rfl⟩ := hv.slice
  have z1 : (al.length : Int) ≤ 9223372036854775807 := by unfold maxLen at hl; omega
  by_cases h1 : 4096 < al.length
  · have K := hide (long76 A al.length cap w hl true (decide_eq_true h1))
    rw [show tkC al = 2 by unfold tkC; rw [if_pos h1]]
    clear hv hl ht h1 HV
    generalize al.length = n at *
    go_enter Try.func46, Try.ntmps46
    go_wp2_with (go_at_call 76; refine (unhide K).mono ?_; rintro e w' ⟨rfl, rfl⟩)
    go_ret
    exact ⟨rfl, Below.refl _ _⟩
  have K := hide (long76 A al.length cap w hl false (decide_eq_false h1))
  by_cases h2 : 120 < al.length
  · rw [show tkC al = 6 by unfold tkC; rw [if_neg h1, if_pos h2]]
    have q1 : (120 : Int) < (al.length : Int) := by omega
    clear hv hl ht h1 HV h2
    generalize al.length = n at *
    go_enter Try.func46, Try.ntmps46
    go_wp2_with (go_at_call 76; refine (unhide K).mono ?_; rintro e w' ⟨rfl, rfl⟩)
    go_ret
    exact ⟨rfl, Below.refl _ _⟩
  have q1 : (al.length : Int) ≤ 120 := by omega
  have K2 := hide (has77 (.slice A al.length cap) al w (unhide HV) (by omega) ht)
  cases h3 : (al.any fun a => decide (65536 < a.t.size)) with
  | true =>
    rw [show tkC al = 2 by unfold tkC; rw [if_neg h1, if_neg h2, if_pos h3]]
    rw [h3] at K2
    clear hv hl ht h1 HV h2 h3
    generalize al.length = n at *
    go_enter Try.func46, Try.ntmps46
    go_wp2_with (first | (go_at_call 76; refine (unhide K).mono ?_; rintro e w' ⟨rfl, hw⟩; have hw := hw.symm; subst hw) | (go_at_call 77; refine (unhide K2).mono ?_; rintro e w' ⟨rfl, hb2⟩))
    go_ret
    exact ⟨rfl, hb2⟩
  | false =>
    rw [show tkC al = 0 by unfold tkC; rw [if_neg h1, if_neg h2, if_neg (by rw [h3]; simp)]]
    rw [h3] at K2
    clear hv hl ht h1 HV h2 h3
    generalize al.length = n at *
    go_enter Try.func46, Try.ntmps46
    go_wp2_with (first | (go_at_call 76; refine (unhide K).mono ?_; rintro e w' ⟨rfl, hw⟩; have hw := hw.symm; subst hw) | (go_at_call 77; refine (unhide K2).mono ?_; rintro e w' ⟨rfl, hb2⟩))
    go_ret
    exact ⟨rfl, hb2⟩
end Go.Proofs.Ythonnlifgdnacaa
