/- One line of a console. -/
import Derived.Test.YtbkcgkffafjbgaaGreatDoorGm
import Derived.Test.YtbkcgkffafjbgaaGreatDoorDo
/- An act of a console's line: done, and what is heard anew told. -/
namespace Go.Proofs.YtbkcgkffafjbgaaGreatDoor
open Go.RowKit
set_option maxHeartbeats 4000000
set_option maxRecDepth 20000
set_option linter.unusedVariables false
theorem act_len {l : By} {a : At} (h : actR l = some a) : a.t.length ≤ 40 := by
  unfold actR at h
  split at h
  · unfold sayD at h
    obtain ⟨k, _, h⟩ := Option.bind_eq_some_iff.1 h
    split at h
    · next hl => cases h; exact hl
    · cases h
  · split at h
    · unfold roundR at h
      split at h
      · cases h; simp
      · split at h
        · obtain ⟨k, _, h⟩ := Option.bind_eq_some_iff.1 h
          split at h
          · cases h; simp
          · cases h
        · cases h
    · split at h
      · unfold hangR at h
        obtain ⟨k, _, h⟩ := Option.bind_eq_some_iff.1 h
        split at h
        · cases h; simp
        · cases h
      · cases h
theorem readV_in {l : By} (h : l.length ≤ 65536) : readV l = lineV (actR l) := by
  unfold readV
  rw [if_neg (by omega)]
theorem do37 (base c g : Nat) (z : Tw) (l : List UInt8) (ll : By) (w : World) (h : Con base c g z l w) (hz : Ok2 z) (hll : ll.length ≤ 65536) (hl : l.length ≤ 536870912) :
    Calls Tryz.prog 37 #[.pointer (some ⟨c, 0, none⟩), .string (bs ll)] w fun e w' => e = .returned (.int .i64 (doC z ll).1) ∧ Con base c g (doC z ll).2.1 (l ++ (doC z ll).2.2) w' ∧ Kc base c g w w' := by
  have K7 := read5 ll w h.glo.1 (by unfold maxLen; omega)
  rw [readV_in hll] at K7
  cases ha : actR ll with
  | none =>
    rw [ha] at K7
    have e : doC z ll = (3, z, []) := by unfold doC; rw [ha]
    rw [e, List.append_nil]
    have HH := hide h
    clear h hz hll hl ha e
    generalize bs ll = lt at *
    unfold lineV at K7
    dsimp only at K7
    go_enter Tryz.func37, Tryz.ntmps37
    go_wp2_with (go_at_call 7; refine K7.mono ?_; rintro e w1 ⟨rfl, b1⟩; have HB1 := hide (bl_al (o := .cells zA 27) b1); clear b1)
    go_ret
    exact ⟨rfl, (unhide HH).below (unhide HB1), Kc.of_below (unhide HB1)⟩
  | some a =>
    rw [ha] at K7
    have hat := act_len ha
    obtain ⟨zx, zy⟩ := hz.pb
    have K61 := hide (fun W (t : TwO base g z W) (hB : base ≤ W.heap.size) => do47 base g z (taOf a) W t hB zx.ok zy.ok ⟨by have := zx.q; omega, by have := zx.i; omega⟩ ⟨by have := zy.q; omega, by have := zy.i; omega⟩ (by show (bs a.t).size ≤ 65536; rw [bs_size]; omega))
    have K60 := hide (fun W (t : Con base c g z l W) => heard60 base c g z l W t zx.i zy.i)
    have HP := hide (hz.step (taOf a)).pb
    have HSL := hide (step_len z (taOf a))
    have HNO := hide (fun e => step_no (z := z) (a := taOf a) e)
    have e : doC z ll = if (stepF z (taOf a)).2 = 0 then (0, (stepF z (taOf a)).1, toldF z (stepF z (taOf a)).1) else ((stepF z (taOf a)).2, z, []) := by unfold doC; rw [ha]
    rw [e]
    have HH := hide h
    have HL := hide hl
    clear h hz hll hl ha e hat zx zy
    generalize bs ll = lt at *
    unfold lineV atV atA at K7
    unfold taOf at K61 HP HSL HNO ⊢
    obtain ⟨k, wh, tx, la, lb⟩ := a
    dsimp only at *
    generalize bs tx = tt at *
    generalize stepF z ⟨k, wh, tt, la, lb⟩ = s at *
    obtain ⟨z', cd⟩ := s
    dsimp only at *
    go_enter Tryz.func37, Tryz.ntmps37
    go_wp2_with (first
      | (go_at_call 7; refine K7.mono ?_; rintro e w1 ⟨rfl, b1⟩; have HS1 := hide b1.size; have HB1 := hide (bl_al (o := .cells #[.int .i64 k, .int .i64 wh, .string tt, .bool la, .bool lb] 27) b1); have HA1 := hide (heap_alloc_new w1 (.cells #[.int .i64 k, .int .i64 wh, .string tt, .bool la, .bool lb] 27)); clear b1)
      | (go_at_call 60; refine (unhide K60 _ ((unhide HH).below (unhide HB1))).mono ?_; rintro e w2 ⟨rfl, b2⟩; have HS2 := hide b2.size; have HB2 := hide (bl_al (o := .cells #[.int .i64 z.x.i.length, .int .i64 z.y.i.length] 93) b2); have HA2 := hide (heap_alloc_new w2 (.cells #[.int .i64 z.x.i.length, .int .i64 z.y.i.length] 93)); clear b2)
      | fail)
    have C2 := ((unhide HH).below (unhide HB1)).below (unhide HB2)
    have r1 := ((unhide HB2).block _ (Array.getElem?_eq_some_iff.1 (unhide HA1)).1).trans (unhide HA1)
    have r2 := unhide HA2
    have K2 := (Kc.of_below (B := base) (c := c) (g := g) (unhide HB1)).trans (Kc.of_below (unhide HB2))
    have n1 : w1.heap.size ≠ g ∧ w1.heap.size ≠ c ∧ w2.heap.size ≠ g ∧ w2.heap.size ≠ c := by
      have q1 := (unhide HH).ltg
      have q2 := (unhide HH).low
      have q3 := (unhide HH).sz
      have q4 := unhide HS1
      have q5 := unhide HS2
      simp at q5
      omega
    have HC2 := hide C2
    have HK2 := hide K2
    have HR1 := hide r1
    have HR2 := hide r2
    have HN := hide n1
    clear C2 K2 r1 r2 n1 HA1 HA2 HB1 HB2 HS1 HS2
    generalize w2.alloc (.cells #[.int .i64 z.x.i.length, .int .i64 z.y.i.length] 93) = w3 at *
    generalize w1.heap.size = p1 at *
    generalize w2.heap.size = p2 at *
    refine wp_region_held (S := fun W => W.cell? ⟨c, 0, none⟩ = some (.slice (some ⟨g, 0, none⟩) 2 2) ∧ W.heap[p1]? = some (.cells #[.int .i64 k, .int .i64 wh, .string tt, .bool la, .bool lb] 27 (0, 0))) (by kernel_rfl) ?_
    have hS0 : Below w3.heap.size w3 { w3 with drawn := w3.drawn + 1 } := below_drewN (Below.refl _ _) 1
    obtain ⟨w4, hw4⟩ : ∃ x, x = ({ w3 with drawn := w3.drawn + 1 } : World) := ⟨_, rfl⟩
    rw [← hw4] at hS0 ⊢
    clear hw4
    have C4 := (unhide HC2).below hS0
    have R4 := (hS0.block _ (Array.getElem?_eq_some_iff.1 (unhide HR1)).1).trans (unhide HR1)
    have R5 := (hS0.block _ (Array.getElem?_eq_some_iff.1 (unhide HR2)).1).trans (unhide HR2)
    have S4 : w4.cell? ⟨c, 0, none⟩ = some (.slice (some ⟨g, 0, none⟩) 2 2) ∧ w4.heap[p1]? = some (.cells #[.int .i64 k, .int .i64 wh, .string tt, .bool la, .bool lb] 27 (0, 0)) := ⟨C4.c0, R4⟩
    have HC4 := hide C4
    have HR4 := hide R4
    have HR5 := hide R5
    have HK4 := hide ((unhide HK2).trans (Kc.of_below hS0))
    clear C4 R4 R5 HC2 HK2 HR1 HR2
    refine wpAnyH_take (i := 0) (oi := { dst := some 19, op := Op.move (Operand.tmp 0), type := 66, pos := "l16_console.go:151", after := #[], guard := none }) (v := ?_) rfl (by kernel_rfl) (by kernel_rfl) (by kernel_rfl) (fun _ _ _ h => h) (Or.inl ⟨by rfl, ?_⟩) S4 ?_
    rotate_left
    · intro W hSw
      obtain ⟨s0, s1⟩ := hSw
      go_simp
      try with_reducible rfl
    simp only [Act.put, List.setIfInBounds_toArray, List.set_cons_zero, List.set_cons_succ]
    refine wpAnyH_take (i := 1) (oi := { dst := some 20, op := Op.nilCheck (Operand.tmp 19), type := 0, pos := "l16_console.go:151", after := #[{ on := 0, ground := Ground.data }], guard := none }) (v := ?_) rfl (by kernel_rfl) (by kernel_rfl) (by kernel_rfl) (fun _ _ _ h => h) (Or.inl ⟨by rfl, ?_⟩) S4 ?_
    rotate_left
    · intro W hSw
      obtain ⟨s0, s1⟩ := hSw
      go_simp
      try with_reducible rfl
    simp only [Act.put, List.setIfInBounds_toArray, List.set_cons_zero, List.set_cons_succ]
    refine wpAnyH_take (i := 2) (oi := { dst := some 21, op := Op.fieldAddr 47 (Operand.tmp 20) 0, type := 0, pos := "l16_console.go:151", after := #[{ on := 1, ground := Ground.data }], guard := none }) (v := ?_) rfl (by kernel_rfl) (by kernel_rfl) (by kernel_rfl) (fun _ _ _ h => h) (Or.inl ⟨by rfl, ?_⟩) S4 ?_
    rotate_left
    · intro W hSw
      obtain ⟨s0, s1⟩ := hSw
      go_simp
      try with_reducible rfl
    simp only [Act.put, List.setIfInBounds_toArray, List.set_cons_zero, List.set_cons_succ]
    refine wpAnyH_take (i := 3) (oi := { dst := some 22, op := Op.load 42 (Operand.tmp 21), type := 42, pos := "l16_console.go:151", after := #[{ on := 2, ground := Ground.data }], guard := none }) (v := ?_) rfl (by kernel_rfl) (by kernel_rfl) (by kernel_rfl) (fun _ _ _ h => h) (Or.inl ⟨by rfl, ?_⟩) S4 ?_
    rotate_left
    · intro W hSw
      obtain ⟨s0, s1⟩ := hSw
      go_simp
      try with_reducible rfl
    simp only [Act.put, List.setIfInBounds_toArray, List.set_cons_zero, List.set_cons_succ]
    refine wpAnyH_take (i := 4) (oi := { dst := some 23, op := Op.load 27 (Operand.tmp 5), type := 27, pos := "l16_console.go:151", after := #[], guard := none }) (v := ?_) rfl (by kernel_rfl) (by kernel_rfl) (by kernel_rfl) (fun _ _ _ h => h) (Or.inl ⟨by rfl, ?_⟩) S4 ?_
    rotate_left
    · intro W hSw
      obtain ⟨s0, s1⟩ := hSw
      have y0 := row_cell (i := 0) s1
      have y1 := row_cell (i := 1) s1
      have y2 := row_cell (i := 2) s1
      have y3 := row_cell (i := 3) s1
      have y4 := row_cell (i := 4) s1
      simp only [List.getElem?_toArray, List.getElem?_cons_succ, List.getElem?_cons_zero] at y0 y1 y2 y3 y4
      go_simp
      try with_reducible rfl
    simp only [Act.put, List.setIfInBounds_toArray, List.set_cons_zero, List.set_cons_succ]
    refine wpAnyH_one (i := 5) (by kernel_rfl) ?_
    refine wpOp_step (o := { dst := some 24, op := Op.call { callee := Callee.value (Operand.func 61), args := #[Operand.tmp 22, Operand.tmp 23], argTypes := #[42, 27] }, type := 3, pos := "l16_console.go:151", after := #[{ on := 3, ground := Ground.data }, { on := 4, ground := Ground.data }], guard := none }) rfl fun K' hK => step_enterW (by rfl) 61 #[.slice (some ⟨g, 0, none⟩) 2 2, taA k wh tt la lb] (by go_simp) ?_
    refine (unhide K61 w4 (unhide HC4).two (unhide HC4).sz).mono ?_
    rintro e w5 ⟨rfl, t5, l5⟩
    have C5 := (unhide HC4).talked l5 t5
    have R6 := (l5.block _ (Array.getElem?_eq_some_iff.1 (unhide HR4)).1 (unhide HN).1).trans (unhide HR4)
    have R7 := (l5.block _ (Array.getElem?_eq_some_iff.1 (unhide HR5)).1 (unhide HN).2.2.1).trans (unhide HR5)
    have S5 : w5.cell? ⟨c, 0, none⟩ = some (.slice (some ⟨g, 0, none⟩) 2 2) ∧ w5.heap[p1]? = some (.cells #[.int .i64 k, .int .i64 wh, .string tt, .bool la, .bool lb] 27 (0, 0)) := ⟨C5.c0, R6⟩
    have HC5 := hide C5
    have HK5 := hide ((unhide HK4).trans (Kc.of_lone l5))
    have HR7 := hide R7
    clear C5 R6 R7 t5 l5

    refine ⟨_, rfl, hK _ _ ⟨S5, ?_⟩⟩
    simp only [Act.put, List.setIfInBounds_toArray, List.set_cons_zero, List.set_cons_succ]
    refine wpAnyH_take (i := 6) (oi := { dst := some 8, op := Op.assign (Operand.tmp 24), type := 3, pos := "l16_console.go:151", after := #[{ on := 5, ground := Ground.data }, { on := 5, ground := Ground.chain }, { on := 0, ground := Ground.phase }, { on := 1, ground := Ground.phase }, { on := 2, ground := Ground.phase }, { on := 3, ground := Ground.phase }, { on := 4, ground := Ground.phase }, { on := 5, ground := Ground.phase }], guard := none }) (v := ?_) rfl (by kernel_rfl) (by kernel_rfl) (by kernel_rfl) (fun _ _ _ h => h) (Or.inl ⟨by rfl, ?_⟩) S5 ?_
    rotate_left
    · intro W hSw
      go_simp
      try with_reducible rfl
    simp only [Act.put, List.setIfInBounds_toArray, List.set_cons_zero, List.set_cons_succ]
    refine wpAnyH_done (by kernel_rfl) ?_ _
    by_cases h0 : cd = 0
    · subst h0
      have KN := hide (news62 base c g z' l z.x.i.length z.y.i.length w5 (unhide HC5) (unhide HSL).1 (unhide HSL).2 (unhide HP).1 (unhide HP).2 (unhide HL))
      have y0 := row_cell (i := 0) (unhide HR7)
      have y1 := row_cell (i := 1) (unhide HR7)
      simp only [List.getElem?_toArray, List.getElem?_cons_succ, List.getElem?_cons_zero] at y0 y1
      clear S5 S4
      go_wp2_with (go_at_call 62; refine (unhide KN).mono ?_; rintro e w6 ⟨rfl, c6, k6⟩; have HR6 := hide (And.intro c6 ((unhide HK5).trans k6.kc)); clear c6 k6)
      go_ret
      exact ⟨rfl, unhide HR6⟩
    · have h1 : (cd == 0) = false := by simpa using h0
      have H9 := hide h0
      have ez := unhide HNO h0
      have HE := hide ez
      clear S5 S4 ez
      go_wp2
      go_ret
      refine ⟨rfl, ?_, unhide HK5⟩
      have := unhide HC5
      rw [unhide HE] at this
      exact this
end Go.Proofs.YtbkcgkffafjbgaaGreatDoor
/- One line of a console. -/
namespace Go.Proofs.YtbkcgkffafjbgaaGreatDoor
open Go.RowKit
set_option maxHeartbeats 4000000
set_option maxRecDepth 20000
set_option linter.unusedVariables false
theorem below_dr {w w1 : World} (h : w1 = w ∨ w1 = w.drew) : Below w.heap.size w w1 := by
  rcases h with rfl | rfl
  · exact Below.refl _ _
  · exact below_drewN (Below.refl _ _) 1
theorem prefix_one (x : By) : Lib.hasPrefix x [35] = decide (x.head? = some 35) := by
  unfold Lib.hasPrefix
  cases x with
  | nil => rfl
  | cons a t =>
    simp only [List.isPrefixOf, Bool.and_true, List.head?_cons]
    by_cases h : a = 35
    · subst h; rfl
    · have : ¬ (35 : UInt8) = a := fun e => h e.symm
      simp [this, h]
theorem line_trim (z : Tw) (l : By) : lineF z l = if tr l = [] ∨ (tr l).head? = some 35 then (z, []) else if tr l = queueB then (z, queB z) else ((doC z l).2.1, (doC z l).2.2 ++ doneB (doC z l).1) := by
  unfold lineF
  rw [head_iff]
  simp only [queue_iff, tr_nil]
theorem take18 (base c g : Nat) (z : Tw) (l : List UInt8) (ll : By) (w : World) (h : Con base c g z l w) (hz : Ok2 z) (hll : ll.length ≤ 65536) (hl : l.length ≤ 268435456) :
    Calls Tryz.prog 18 #[.pointer (some ⟨c, 0, none⟩), .string (bs ll)] w fun e w' => e = .returned (.tuple #[]) ∧ Con base c g (lineF z ll).1 (l ++ (lineF z ll).2) w' ∧ Kc base c g w w' := by
  have K := strings_Trim_one (bs ll) 32 (by decide) w (by rw [bs_size]; omega)
  rw [bs_list, tr_lib] at K
  change Calls Tryz.prog 33 #[.string (bs ll), .string ⟨#[32]⟩] w fun e w' => e = .returned (.string (bs (tr ll))) ∧ (w' = w ∨ w' = w.drew) at K
  have KP := hide (fun W => strings_HasPrefix (bs (tr ll)) ⟨#[35]⟩ W)
  rw [bs_list] at KP
  rw [show (⟨#[35]⟩ : ByteArray).data.toList = [35] from rfl, prefix_one] at KP
  have hx := bs_toList (tr ll)
  have HH := hide h
  rw [line_trim]
  have KD := hide (fun W (a : Con base c g z l W) => do37 base c g z l ll W a hz hll (by omega))
  obtain ⟨zx, zy⟩ := hz.pb
  have KQ := hide (fun W (a : Con base c g z l W) => queues35 base c g z l W a zx.q zy.q (by omega))
  obtain ⟨o1, o2, o3, o4⟩ := doC_ok hz ll
  have KE := hide (fun W z' l' (a : Con base c g z' (l ++ l') W) (k : Nat) (b : k < 20) (b2 : l'.length ≤ 9800) => done36 base c g z' (l ++ l') k W a b (by simp only [List.length_append]; omega))
  have HO := hide (And.intro o2 (And.intro o3 o4))
  generalize doC z ll = d at *
  obtain ⟨cd, z', tx⟩ := d
  dsimp only at *
  clear h hz hll hl zx zy o1 o2 o3 o4
  generalize bs ll = lt at *
  generalize tr ll = x at *
  generalize bs x = t at *
  by_cases h0 : x = []
  · rw [if_pos (Or.inl h0), List.append_nil]
    have he : t.toList.isEmpty = true := by rw [hx, h0]; rfl
    clear hx h0
    go_enter Tryz.func18, Tryz.ntmps18
    go_wp2_with (go_at_call 33; refine K.mono ?_; rintro e w1 ⟨rfl, hw⟩; have HB := hide (below_dr hw); clear hw)
    go_end0
    exact ⟨rfl, (unhide HH).below (unhide HB), Kc.of_below (unhide HB)⟩
  · have he : t.toList.isEmpty = false := by rw [hx]; cases x; exact absurd rfl h0; rfl
    by_cases h1 : x.head? = some 35
    · rw [if_pos (Or.inr h1), List.append_nil]
      rw [decide_eq_true h1] at KP
      clear hx h0 h1
      go_enter Tryz.func18, Tryz.ntmps18
      go_wp2_with (first | (go_at_call 33; refine K.mono ?_; rintro e w1 ⟨rfl, hw⟩; have HB := hide (below_dr hw); clear hw) | (go_at_call 34; refine (unhide KP _).mono ?_; rintro e w2 ⟨rfl, rfl⟩))
      go_end0
      exact ⟨rfl, (unhide HH).below (unhide HB), Kc.of_below (unhide HB)⟩
    · rw [if_neg (fun e => e.elim h0 h1)]
      rw [decide_eq_false h1] at KP
      by_cases h2 : x = queueB
      · rw [if_pos h2]
        have hq : (t.toList == [113, 117, 101, 117, 101]) = true := by rw [hx, h2]; rfl
        clear hx h0 h1 h2
        go_enter Tryz.func18, Tryz.ntmps18
        go_wp2_with (first | (go_at_call 33; refine K.mono ?_; rintro e w1 ⟨rfl, hw⟩; have HB := hide (below_dr hw); clear hw) | (go_at_call 34; refine (unhide KP _).mono ?_; rintro e w2 ⟨rfl, rfl⟩) | (go_at_call 35; refine (unhide KQ _ ((unhide HH).below (unhide HB))).mono ?_; rintro e w3 ⟨rfl, c3, k3⟩; have HR := hide (And.intro c3 (show Kc base c g w w3 from (Kc.of_below (unhide HB)).trans k3.kc)); clear c3 k3))
        go_end0
        exact ⟨rfl, unhide HR⟩
      · rw [if_neg h2]
        have hq : (t.toList == [113, 117, 101, 117, 101]) = false := by rw [hx]; simpa [queueB] using h2
        clear hx h0 h1 h2
        obtain ⟨k, rfl⟩ : ∃ k : Nat, cd = k := ⟨cd.toNat, by have := (unhide HO).2.1; omega⟩
        go_enter Tryz.func18, Tryz.ntmps18
        go_wp2_with (first | (go_at_call 33; refine K.mono ?_; rintro e w1 ⟨rfl, hw⟩; have HB := hide (below_dr hw); clear hw) | (go_at_call 34; refine (unhide KP _).mono ?_; rintro e w2 ⟨rfl, rfl⟩) | (go_at_call 37; refine (unhide KD _ ((unhide HH).below (unhide HB))).mono ?_; rintro e w3 ⟨rfl, c3, k3⟩; have HR := hide (And.intro c3 ((Kc.of_below (unhide HB)).trans k3)); clear c3 k3) | (go_at_call 36; refine (unhide KE _ z' tx (unhide HR).1 k (by have := (unhide HO).2.2; omega) (unhide HO).1).mono ?_; rintro e w4 ⟨rfl, c4, k4⟩; have HR4 := hide (And.intro c4 ((unhide HR).2.trans k4.kc)); clear c4 k4))
        go_end0
        rw [← List.append_assoc]
        exact ⟨rfl, unhide HR4⟩
end Go.Proofs.YtbkcgkffafjbgaaGreatDoor
