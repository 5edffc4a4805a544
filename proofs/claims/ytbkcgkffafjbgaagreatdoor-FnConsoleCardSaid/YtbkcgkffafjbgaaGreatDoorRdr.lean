/- The specification's ReadLine. -/
import Derived.Test.YtbkcgkffafjbgaaGreatDoorRda
import Derived.Test.YtbkcgkffafjbgaaGreatDoorRdb
import Derived.Test.YtbkcgkffafjbgaaGreatDoorRdc
import Derived.Test.YtbkcgkffafjbgaaGreatDoorRdd
namespace Go.Proofs.YtbkcgkffafjbgaaGreatDoor
open Go.RowKit
set_option maxHeartbeats 4000000
set_option maxRecDepth 20000
theorem eqc (W c : By) : ((bs W).toList == c) = decide (W = c) := by
  rw [bs_toList, Bool.eq_iff_iff, beq_iff_eq, decide_eq_true_iff]
theorem wds_len (l : By) : (wds l).length ≤ l.length + 1 := by
  have : ∀ (l : By) (out : List By) (cur : By), (wgo out cur l).length ≤ out.length + l.length + 1 := by
    intro l
    induction l with
    | nil => intro out cur; unfold wgo; split <;> simp
    | cons b l ih =>
      intro out cur
      unfold wgo
      split
      · refine Nat.le_trans (ih _ _) ?_
        split <;> simp <;> omega
      · refine Nat.le_trans (ih _ _) ?_
        simp
  have h := this l [] []
  simp only [List.length_nil, Nat.zero_add] at h
  exact h
theorem read8 (l : By) (v : Value) (w : World) (hv : strsV w v ((wds l).map bs)) (hne : wd l ≠ []) (hl : l.length ≤ 65536) :
    Calls Tryz.prog 16 #[.string (bs l), v] w (outD (actR l) w) := by
  obtain ⟨A, cap, rfl, hc⟩ := hv
  have hlen := wds_len l
  have e1 := wds_eq l
  rw [if_neg hne] at e1
  obtain ⟨b, off, rfl, hlt, hcc⟩ := hc (by rw [e1]; simp)
  have hw : ∀ i t, ((wds l).map bs)[i]? = some t → wordAt w b (off + i) t := by
    intro i t h x
    have hi : i < ((wds l).map bs).length := by
      rcases Nat.lt_or_ge i ((wds l).map bs).length with h1 | h1
      · exact h1
      · rw [List.getElem?_eq_none h1] at h; cases h
    have h2 := hcc i hi
    rw [List.getD_eq_getElem?_getD, h] at h2
    exact (cell_below (bl_al (Below.refl _ _)) hlt).trans h2
  have K12 := hide (fun W => rest12 l W hl)
  rw [actR_eq]
  generalize tr (rs (rs l)) = T at *
  have e2 := wds_eq (rs l)
  have e3 := wds_eq (rs (rs l))
  have e4 := wds_eq (rs (rs (rs l)))
  generalize wd l = W0 at *
  generalize wd (rs l) = W1 at *
  generalize wd (rs (rs l)) = W2 at *
  generalize wd (rs (rs (rs l))) = W3 at *
  rw [List.length_map]
  have c0 : wordAt w b off (bs W0) := hw 0 _ (by rw [e1]; rfl)
  have s0 := eqc W0 [115, 97, 121]
  have r0 := eqc W0 [114, 111, 117, 110, 100]
  have h0 := eqc W0 [104, 97, 110, 103]
  have big : (wds l).length ≤ maxLen := by unfold maxLen; omega
  unfold actS
  by_cases w1 : W1 = []
  · rw [if_pos w1] at e2
    rw [e1, e2]
    show Calls Tryz.prog 16 #[_, .slice _ 1 _] _ _
    by_cases a : W0 = [115, 97, 121]
    · rw [if_pos a, w1]
      exact say_one b off cap _ l w c0 (s0.trans (decide_eq_true a)) (r0.trans (decide_eq_false (by rw [a]; decide))) (h0.trans (decide_eq_false (by rw [a]; decide)))
    rw [if_neg a]
    by_cases c : W0 = [114, 111, 117, 110, 100]
    · rw [if_pos c, if_pos w1]
      exact round_one b off cap _ l w c0 (s0.trans (decide_eq_false a)) (r0.trans (decide_eq_true c)) (h0.trans (decide_eq_false (by rw [c]; decide)))
    rw [if_neg c]
    by_cases d : W0 = [104, 97, 110, 103]
    · rw [if_pos d, w1]
      exact hang_one b off cap _ l w c0 (s0.trans (decide_eq_false a)) (r0.trans (decide_eq_false c)) (h0.trans (decide_eq_true d))
    rw [if_neg d]
    exact other_one b off cap _ l w c0 (s0.trans (decide_eq_false a)) (r0.trans (decide_eq_false c)) (h0.trans (decide_eq_false d))
  rw [if_neg w1] at e2
  have c1 : wordAt w b (off + 1) (bs W1) := hw 1 _ (by rw [e1, e2]; rfl)
  have two : 2 ≤ (wds l).length := by rw [e1, e2]; simp
  by_cases a : W0 = [115, 97, 121]
  · rw [if_pos a]
    exact say_more b off cap _ _ l T W1 two big K12 w c0 c1 (s0.trans (decide_eq_true a)) (r0.trans (decide_eq_false (by rw [a]; decide))) (h0.trans (decide_eq_false (by rw [a]; decide)))
  rw [if_neg a]
  by_cases c : W0 = [114, 111, 117, 110, 100]
  · rw [if_pos c, if_neg w1]
    have q1 := s0.trans (decide_eq_false a)
    have q2 := r0.trans (decide_eq_true c)
    have q3 := h0.trans (decide_eq_false (by rw [c]; decide))
    by_cases w2 : W2 = []
    · rw [if_pos w2] at e3
      rw [show lostF W2 = none by rw [w2]; rfl]
      rw [show (if W1 = [108, 111, 115, 101] then (none : Option (Bool × Bool)).bind (fun p => if W3 = [] then some (⟨2, 0, [], p.1, p.2⟩ : At) else none) else none) = none by split <;> rfl]
      rw [e1, e2, e3]
      exact round_two b off cap _ _ l w c0 c1 q1 q2 q3
    rw [if_neg w2] at e3
    have c2 : wordAt w b (off + 2) (bs W2) := hw 2 _ (by rw [e1, e2, e3]; rfl)
    by_cases w3 : W3 = []
    · rw [if_pos w3] at e4
      rw [e1, e2, e3, e4]
      by_cases lo : W1 = [108, 111, 115, 101]
      · rw [if_pos lo]
        simp only [if_pos w3]
        exact lose_three b off cap _ _ l W2 w c0 c1 c2 q1 q2 q3 ((eqc W1 _).trans (decide_eq_true lo))
      · rw [if_neg lo]
        exact lose_none b off cap _ _ _ l w c0 c1 c2 q1 q2 q3 ((eqc W1 _).trans (decide_eq_false lo))
    · rw [if_neg w3] at e4
      rw [show (if W1 = [108, 111, 115, 101] then (lostF W2).bind (fun p => if W3 = [] then some (⟨2, 0, [], p.1, p.2⟩ : At) else none) else none) = none by
        split
        · cases lostF W2
          · rfl
          · simp
        · rfl]
      exact round_more b off cap _ _ _ l (by rw [e1, e2, e3, e4]; simp) big w c0 c1 q1 q2 q3
  rw [if_neg c]
  by_cases d : W0 = [104, 97, 110, 103]
  · rw [if_pos d]
    have q1 := s0.trans (decide_eq_false a)
    have q2 := r0.trans (decide_eq_false c)
    have q3 := h0.trans (decide_eq_true d)
    by_cases w2 : W2 = []
    · rw [if_pos w2] at e3
      rw [e1, e2, e3]
      simp only [if_pos w2]
      exact hang_two b off cap _ l W1 w c0 c1 q1 q2 q3
    · rw [if_neg w2] at e3
      rw [show ((whoF W1).bind fun k => if W2 = [] then some (⟨3, k, [], false, false⟩ : At) else none) = none by
        cases whoF W1
        · rfl
        · simp [w2]]
      exact hang_more b off cap _ _ _ l (by rw [e1, e2, e3]; simp) big w c0 c1 q1 q2 q3
  rw [if_neg d]
  exact other_more b off cap _ _ _ l two big w c0 c1 (s0.trans (decide_eq_false a)) (r0.trans (decide_eq_false c)) (h0.trans (decide_eq_false d))
theorem read4 (l : By) (w : World) (hl : l.length ≤ maxLen) :
    Calls Tryz.prog 8 #[.string (bs l)] w fun e w' => e = .returned (readV l) ∧ Below w.heap.size w w' := by
  have hs := bs_size l
  have HB : Hid (Below w.heap.size w (w.alloc (.cells zA 27))) := hide (bl_al (Below.refl _ _))
  have RB : Hid ((w.alloc (.cells zA 27)).heap[w.heap.size]? = some (.cells zA 27 (0, 0))) := hide (heap_alloc_new w _)
  by_cases h : 65536 < l.length
  · rw [show readV l = .tuple #[.agg zA, .int .i64 2] by unfold readV; rw [if_pos h]]
    have q1 : (65536 : Int) < ((bs l).size : Int) := by omega
    have q9 : ((bs l).size : Int) ≤ 9223372036854775807 := by unfold maxLen at hl; omega
    clear h hs hl
    go_enter Tryz.func8, Tryz.ntmps8
    go_wp2_with (with_reducible change wpList _ _ _ ({ dst := none, op := Op.store 27 (Operand.tmp 2) _, type := _, pos := _, after := _, guard := _ } :: _) _ _; refine wpList_store_row rfl 27 _ _ rfl w.heap.size zA rfl rfl 27 zA (unhide RB) (by kernel_rfl) rfl (by kernel_rfl) ?_)
    refine bodyPost_ret (results_tmp_rowD rfl _ _ w.heap.size 27 zA (0, 0) _ (.int .i64 2) rfl rfl (get_setRow (unhide RB)) Tryz.underlying27 rfl (by kernel_rfl)) rfl ?_
    exact ⟨rfl, below_setRow (unhide HB) (Nat.le_refl _)⟩
  rw [show readV l = lineV (actR l) by unfold readV; rw [if_neg h]]
  have q1 : ((bs l).size : Int) ≤ 65536 := by omega
  have K7 := hide (fun W => words7 l W (by omega))
  have K8 := hide (fun v W hv hne => read8 l v W hv hne (by omega))
  by_cases hne : wd l = []
  · have e0 : wds l = [] := by rw [wds_eq, if_pos hne]
    rw [show actR l = none by unfold actR; rw [hne]; rfl]
    rw [e0] at K7
    clear K8 h hs hl hne e0
    go_enter Tryz.func8, Tryz.ntmps8
    go_wp2_with (first | (go_at_call 15; refine (unhide K7 _).mono ?_; rintro e w1 ⟨v, rfl, hv, hb⟩; obtain ⟨A, cap, rfl, _⟩ := hv; have RB1 := hide ((hb.block _ (by simp)).trans (unhide RB)); have HB1 := hide (bl_st hb (unhide HB)); clear hb K7) | (with_reducible change wpList _ _ _ ({ dst := none, op := Op.store 27 (Operand.tmp 2) _, type := _, pos := _, after := _, guard := _ } :: _) _ _; refine wpList_store_row rfl 27 _ _ rfl w.heap.size zA rfl rfl 27 zA (unhide RB1) (by kernel_rfl) rfl (by kernel_rfl) ?_))
    refine bodyPost_ret (results_tmp_rowD rfl _ _ w.heap.size 27 zA (0, 0) _ (.int .i64 3) rfl rfl (get_setRow (unhide RB1)) Tryz.underlying27 rfl (by kernel_rfl)) rfl ?_
    exact ⟨rfl, below_setRow (unhide HB1) (Nat.le_refl _)⟩
  have HNE := hide hne
  have n0 : ∀ m : Nat, ((wds l).map bs).length = m → ((m : Int) == 0) = false := by
    intro m hm
    rw [wds_eq, if_neg hne] at hm
    simp at hm ⊢; omega
  obtain ⟨m, hm⟩ : ∃ m, ((wds l).map bs).length = m := ⟨_, rfl⟩
  have n1 := n0 m hm
  have hml : (m : Int) ≤ 9223372036854775807 := by have := wds_len l; simp at hm; omega
  generalize actR l = o at *
  clear h hs hl hne n0
  cases o with
  | none =>
    go_enter Tryz.func8, Tryz.ntmps8
    go_wp2_with (first | (go_at_call 15; refine (unhide K7 _).mono ?_; rintro e w1 ⟨v, rfl, hv, hb⟩; have HV := hide hv; obtain ⟨A, cap, rfl, _⟩ := hv; rw [hm] at HV ⊢; have RB1 := hide ((hb.block _ (by simp)).trans (unhide RB)); have HB1 := hide (bl_st hb (unhide HB)); clear hb K7) | (go_at_call 16; refine (unhide K8 _ _ (unhide HV) (unhide HNE)).mono ?_; rintro e w2 ⟨hb2, cs, rfl, hcs, hi, h1⟩; have LT := (Array.getElem?_eq_some_iff.1 (unhide RB1)).1; have LE := hb2.size; have R5 := hide (heap_alloc_new w2 (.cells zA 27)); have RB2 : Hid (((w2.alloc (.cells zA 27)).setRow w2.heap.size cs).heap[w.heap.size]? = some (.cells zA 27 (0, 0))) := hide (by rw [get_setRow_other (by omega)]; exact ((bl_al hb2).block _ LT).trans (unhide RB1)); have HB2 : Hid (Below w.heap.size w ((w2.alloc (.cells zA 27)).setRow w2.heap.size cs)) := hide (below_setRow (bl_al (bl_st hb2 (unhide HB1))) (by have := (unhide HB1).size; omega)); have H1 := hide hcs; have H2 := hide hi; have H3 := hide h1; clear hcs hi h1; clear hb2 K8 LT LE) | (with_reducible change wpList _ _ _ ({ dst := none, op := Op.store 27 (Operand.tmp 5) _, type := _, pos := _, after := _, guard := _ } :: _) _ _; refine wpList_store_row rfl 27 _ _ rfl w2.heap.size cs rfl rfl 27 zA (unhide R5) (unhide H2) (unhide H1) (unhide H3) ?_) | (with_reducible change wpList _ _ _ ({ dst := none, op := Op.store 27 (Operand.tmp 2) _, type := _, pos := _, after := _, guard := _ } :: _) _ _; refine wpList_store_row rfl 27 _ _ rfl w.heap.size zA rfl rfl 27 zA (unhide RB2) (by kernel_rfl) rfl (by kernel_rfl) ?_))
    refine bodyPost_ret (results_tmp_rowD rfl _ _ w.heap.size 27 zA (0, 0) _ (.int .i64 3) rfl rfl (get_setRow (unhide RB2)) Tryz.underlying27 rfl (by kernel_rfl)) rfl ?_
    exact ⟨rfl, below_setRow (unhide HB2) (Nat.le_refl _)⟩
  | some a =>
    go_enter Tryz.func8, Tryz.ntmps8
    go_wp2_with (first | (go_at_call 15; refine (unhide K7 _).mono ?_; rintro e w1 ⟨v, rfl, hv, hb⟩; have HV := hide hv; obtain ⟨A, cap, rfl, _⟩ := hv; rw [hm] at HV ⊢; have RB1 := hide ((hb.block _ (by simp)).trans (unhide RB)); have HB1 := hide (bl_st hb (unhide HB)); clear hb K7) | (go_at_call 16; refine (unhide K8 _ _ (unhide HV) (unhide HNE)).mono ?_; rintro e w2 ⟨hb2, rfl⟩; have LT := (Array.getElem?_eq_some_iff.1 (unhide RB1)).1; have LE := hb2.size; have R5 := hide (heap_alloc_new w2 (.cells zA 27)); have RB2 : Hid (((w2.alloc (.cells zA 27)).setRow w2.heap.size (atA a)).heap[w.heap.size]? = some (.cells zA 27 (0, 0))) := hide (by rw [get_setRow_other (by omega)]; exact ((bl_al hb2).block _ LT).trans (unhide RB1)); have HB2 : Hid (Below w.heap.size w ((w2.alloc (.cells zA 27)).setRow w2.heap.size (atA a))) := hide (below_setRow (bl_al (bl_st hb2 (unhide HB1))) (by have := (unhide HB1).size; omega)); clear hb2 K8 LT LE) | (with_reducible change wpList _ _ _ ({ dst := none, op := Op.store 27 (Operand.tmp 5) _, type := _, pos := _, after := _, guard := _ } :: _) _ _; refine wpList_store_row rfl 27 _ _ rfl w2.heap.size (atA a) rfl rfl 27 zA (unhide R5) (by kernel_rfl) rfl (by kernel_rfl) ?_) | (with_reducible change wpList _ _ _ ({ dst := some 26, op := Op.load 27 _, type := _, pos := _, after := _, guard := _ } :: _) _ _; refine wpList_load_row rfl 27 _ rfl w2.heap.size rfl 27 _ _ _ (get_setRow (cs := atA a) (unhide R5)) Tryz.underlying27 rfl (by kernel_rfl) ?_) | (with_reducible change wpList _ _ _ ({ dst := none, op := Op.store 27 (Operand.tmp 2) _, type := _, pos := _, after := _, guard := _ } :: _) _ _; refine wpList_store_row rfl 27 _ _ rfl w.heap.size (atA a) rfl rfl 27 zA (unhide RB2) (by kernel_rfl) rfl (by kernel_rfl) ?_))
    refine bodyPost_ret (results_tmp_rowD rfl _ _ w.heap.size 27 (atA a) (0, 0) _ (.int .i64 0) rfl rfl (get_setRow (unhide RB2)) Tryz.underlying27 rfl (by kernel_rfl)) rfl ?_
    exact ⟨rfl, below_setRow (unhide HB2) (Nat.le_refl _)⟩
end Go.Proofs.YtbkcgkffafjbgaaGreatDoor
