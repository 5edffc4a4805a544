/- A line read by the program: what is no act is recovered where the line is read. -/
import Derived.Test.YtbkcgkffafjbgaaDoorAct
import Derived.Defers
import Derived.Recover
namespace Go.Proofs.YtbkcgkffafjbgaaDoor
open Go.RowKit
set_option maxHeartbeats 4000000
set_option maxRecDepth 20000
theorem results_cells {P : Program} {fn : Func} {p u : Tmp} {ty tz : TypeId} (h : fn.results = #[.cell p ty, .cell u tz]) (tmps : Array Value) (w : World) (g g2 : Nat) (t : TypeId) (cs : Array Value) (fr : Nat × Nat) (d : TypeDesc) (x : Value)
    (hp : tmps.getD p undef = .pointer (some ⟨g, 0, none⟩)) (hx : tmps.getD u undef = .pointer (some ⟨g2, 0, none⟩)) (hg : w.heap[g]? = some (.cells cs t fr)) (hz : (loadVar tz ⟨g2, 0, none⟩).run P w = .ok x w)
    (hu : P.underlying ty = some d) (hd : (match d with | .struct _ | .array _ _ => true | _ => false) = true) (hi : (P.info? ty).map (·.size) = some cs.size) :
    (results fn tmps).run P w = .ok (.tuple #[.agg cs, x]) w := by
  have e : (results fn tmps).run P w = ((asAddr (tmps.getD p undef)).run P w).andThen fun a w1 => ((loadVar ty a).run P w1).andThen fun v w2 => ((asAddr (tmps.getD u undef)).run P w2).andThen fun b w3 => ((loadVar tz b).run P w3).andThen fun x w4 => .ok (.tuple #[v, x]) w4 := by
    simp only [results, h]
    simp [Sem.run_bind, Result.andThen]
  rw [e, hp, hx]
  simp [asAddr, run_loadVar_row w g t ty cs fr d hg hu hd hi, hz]
theorem load3 (w : World) (g : Nat) (c : Int) (h : w.cell? ⟨g, 0, none⟩ = some (.int .i64 c)) : (loadVar 3 ⟨g, 0, none⟩).run Tryd.prog w = .ok (.int .i64 c) w := by
  simp [go_sem, h]
theorem results_tmp_row {P : Program} {fn : Func} {p u : Tmp} {ty : TypeId} (h : fn.results = #[.cell p ty, .tmp u]) (tmps : Array Value) (w : World) (g : Nat) (t : TypeId) (cs : Array Value) (fr : Nat × Nat) (d : TypeDesc) (x : Value)
    (hp : tmps.getD p undef = .pointer (some ⟨g, 0, none⟩)) (hx : tmps.getD u undef = x) (hg : w.heap[g]? = some (.cells cs t fr))
    (hu : P.underlying ty = some d) (hd : (match d with | .struct _ | .array _ _ => true | _ => false) = true) (hi : (P.info? ty).map (·.size) = some cs.size) :
    (results fn tmps).run P w = .ok (.tuple #[.agg cs, x]) w := by
  rw [results_cell_tmp h, hp, hx]
  simp [asAddr, run_loadVar_row w g t ty cs fr d hg hu hd hi]
theorem catch13 (b c : Nat) (x : Int) (older : List PanicEntry) (w : World) (row : w.heap[b]? = some (.cells zA 23 (0, 0))) (hc : w.heap[c]? = some (.cells #[.int .i64 x] 3 (0, 0))) (hne : c ≠ b) :
    CallsD Tryd.prog 13 #[.pointer (some ⟨b, 0, none⟩), .pointer (some ⟨c, 0, none⟩)] (.panicking ({ v := .iface 3 (.int .i64 3), recovered := false } :: older)) w fun e u' w' =>
      e = .returned (.tuple #[]) ∧ u' = .panicking ({ v := .iface 3 (.int .i64 3), recovered := true } :: older) ∧ w' = (w.setRow b zA).setCell ⟨c, 0, none⟩ (.int .i64 3) := by
  refine callsD_of_wpS Tryd.func13 rfl fun c₀ cs hu => ?_
  apply wpS_seq
  apply wpS_region
  simp [wpOpsS, go_sem, recoverD, hu, Tryd.ntmps13, Exit.thenS]
  refine wpS_cond (t := true) (by simp [Act.eval, Array.replicate]) ?_
  simp only [if_true]
  refine wpS_of_wp ?_
  have c0 := row_cell (i := 0) (show (w.setRow b zA).heap[c]? = some (.cells #[.int .i64 x] 3 (0, 0)) by rw [get_setRow_other hne]; exact hc)
  have f0 := row_free (i := 0) (show (w.setRow b zA).heap[c]? = some (.cells #[.int .i64 x] 3 (0, 0)) by rw [get_setRow_other hne]; exact hc)
  simp at c0
  change Code.wp _ _ _ { tmps := #[.pointer (some ⟨b, 0, none⟩), .pointer (some ⟨c, 0, none⟩), .iface 3 (.int .i64 3), .bool true, undef], defers := [] } w
  go_wp2_with (with_reducible change wpList _ _ _ ({ dst := none, op := Op.store 23 (Operand.tmp 0) _, type := _, pos := _, after := _, guard := _ } :: _) _ _; refine wpList_store_row rfl 23 _ _ rfl b zA rfl rfl 23 zA row (by kernel_rfl) rfl (by kernel_rfl) ?_)
  simp [bodyPostS, results, Tryd.results13]
theorem catch13i (b c : Nat) (w : World) :
    CallsD Tryd.prog 13 #[.pointer (some ⟨b, 0, none⟩), .pointer (some ⟨c, 0, none⟩)] .returning w fun e u' w' => e = .returned (.tuple #[]) ∧ u' = .returning ∧ w' = w := by
  refine callsD_of_wpS Tryd.func13 rfl fun c₀ cs hu => ?_
  apply wpS_seq
  apply wpS_region
  simp [wpOpsS, go_sem, recoverD, hu, Tryd.ntmps13, Exit.thenS]
  refine wpS_cond (t := false) (by simp [Act.eval, Array.replicate]) ?_
  simp only [Bool.false_eq_true, if_false]
  refine wpS_of_wp (wp_skip ?_)
  cases c₀
  simp_all [bodyPostS, results, Tryd.results13]
/-- what a line is: an act, or none -/
def lineV (o : Option At) : Value :=
  match o with
  | some a => .tuple #[atV a, .int .i64 0]
  | none => .tuple #[.agg zA, .int .i64 3]
theorem actOf10 (l : By) (w : World) (hn : Nm w) (hl : l.length ≤ 65536) :
    Calls Tryd.prog 10 #[.string (bs l)] w fun e w' => e = .returned (lineV (actR l)) ∧ Below w.heap.size w w' := by
  have hmf : ∀ (fn : Fn) (first cap : Array Value) (w : World), (Instr.makeFunc fn first cap).run Tryd.prog w = .ok (.func fn first cap) w := fun _ _ _ _ => rfl
  have K := hide (fun W a b => act14 (w.heap.size + 1 + 1) l W a b (by omega) hl)
  have HN := hide (((hn.step (.cells zA 23)).step (.cells #[.int .i64 0] 3)).step (.cells #[.string (bs l)] 36))
  have HU : Hid (U (w.heap.size + 1 + 1) l (((w.alloc (.cells zA 23)).alloc (.cells #[.int .i64 0] 3)).alloc (.cells #[.string (bs l)] 36))) := hide (heap_at _ _ _ (by simp))
  generalize actR l = o at *
  clear hn hl
  have RB0 : (((w.alloc (.cells zA 23)).alloc (.cells #[.int .i64 0] 3)).alloc (.cells #[.string (bs l)] 36)).heap[w.heap.size]? = some (.cells zA 23 (0, 0)) :=
    ((bl_al (bl_al (Below.refl _ _))).block _ (by simp)).trans (heap_alloc_new w _)
  have RC0 : (((w.alloc (.cells zA 23)).alloc (.cells #[.int .i64 0] 3)).alloc (.cells #[.string (bs l)] 36)).heap[w.heap.size + 1]? = some (.cells #[.int .i64 0] 3 (0, 0)) :=
    ((bl_al (Below.refl _ _)).block _ (by simp)).trans (heap_at _ _ _ (by simp))
  have B0 : Below w.heap.size w (((w.alloc (.cells zA 23)).alloc (.cells #[.int .i64 0] 3)).alloc (.cells #[.string (bs l)] 36)) := bl_al (bl_al (bl_al (Below.refl _ _)))
  have HB0 := hide B0
  have HRB0 := hide RB0
  have HRC0 := hide RC0
  clear RB0 RC0 B0
  cases o with
  | none =>
    go_enter_defers Tryd.func10, Tryd.ntmps10
    go_wp2_with (go_at_call 14; refine (unhide K _ (unhide HU) (unhide HN)).mono ?_; rintro e w2 ⟨rfl, hl2⟩; have RB := hide (row_lone (unhide HRB0) hl2 (by omega)); have RC := hide (row_lone (unhide HRC0) hl2 (by omega)); have B2 := hide (hl2.below (unhide HB0) (by omega) (by simp; omega)); clear hl2)
    refine leaves_cons (f := 13) (args := #[.pointer (some ⟨w.heap.size, 0, none⟩), .pointer (some ⟨w.heap.size + 1, 0, none⟩)]) (by simp) (by simp [go_sem]) ?_
    refine (catch13 w.heap.size (w.heap.size + 1) 0 [] w2 (unhide RB) (unhide RC) (by omega)).mono ?_
    rintro e u' w'' ⟨rfl, rfl, rfl⟩
    refine ⟨_, results_cells (P := Tryd.prog) rfl _ _ w.heap.size (w.heap.size + 1) 23 zA (0, 0) _ (.int .i64 3) rfl rfl ?_ (load3 _ _ _ ?_) Tryd.underlying23 rfl (by kernel_rfl), rfl, ?_⟩
    · exact row_set_other (get_setRow (unhide RB)) (by omega)
    · rw [row_cell (row_set (i := 0) (v := .int .i64 3) (show (w2.setRow w.heap.size zA).heap[w.heap.size + 1]? = some (.cells #[.int .i64 0] 3 (0, 0)) by rw [get_setRow_other (by omega)]; exact unhide RC))]
      rfl
    · exact bl_set (below_setRow (unhide B2) (Nat.le_refl _)) (by omega)
  | some a =>
    go_enter_defers Tryd.func10, Tryd.ntmps10
    go_wp2_with (first | (go_at_call 14; refine (unhide K _ (unhide HU) (unhide HN)).mono ?_; rintro e w2 ⟨rfl, hl2⟩; have RB := hide (row_lone (unhide HRB0) hl2 (by omega)); have RC := hide (row_lone (unhide HRC0) hl2 (by omega)); have B2 := hide (hl2.below (unhide HB0) (by omega) (by simp; omega)); have RC2 : (w2.setRow w.heap.size (atA a)).heap[w.heap.size + 1]? = some (.cells #[.int .i64 0] 3 (0, 0)) := (by rw [get_setRow_other (by omega)]; exact unhide RC); have c1 := row_cell (i := 0) RC2; have f1 := row_free (i := 0) RC2; have HC2 := hide RC2; simp at c1; clear hl2 K RC2) | (with_reducible change wpList _ _ _ ({ dst := none, op := Op.store 23 (Operand.tmp 2) _, type := _, pos := _, after := _, guard := _ } :: _) _ _; refine wpList_store_row rfl 23 _ _ rfl w.heap.size (atA a) rfl rfl 23 zA (unhide RB) (by kernel_rfl) rfl (by kernel_rfl) ?_))
    refine leaves_cons (f := 13) (args := #[.pointer (some ⟨w.heap.size, 0, none⟩), .pointer (some ⟨w.heap.size + 1, 0, none⟩)]) (by simp) (by simp [go_sem]) ?_
    refine (catch13i w.heap.size (w.heap.size + 1) _).mono ?_
    rintro e u' w'' ⟨rfl, rfl, rfl⟩
    simp only [Leaves, settle]
    refine ⟨_, results_cells (P := Tryd.prog) rfl _ _ w.heap.size (w.heap.size + 1) 23 (atA a) (0, 0) _ (.int .i64 0) rfl rfl ?_ (load3 _ _ _ ?_) Tryd.underlying23 rfl (by kernel_rfl), rfl, ?_⟩
    · exact row_set_other (get_setRow (unhide RB)) (by omega)
    · rw [row_cell (row_set (i := 0) (v := .int .i64 0) (show (w2.setRow w.heap.size (atA a)).heap[w.heap.size + 1]? = some (.cells #[.int .i64 0] 3 (0, 0)) by rw [get_setRow_other (by omega)]; exact unhide RC))]
      rfl
    · exact bl_set (below_setRow (unhide B2) (Nat.le_refl _)) (by omega)
theorem long9 (t : ByteArray) (b : Bool) (w : World) (hb : decide (65536 < t.size) = b) (ht : t.size ≤ maxLen) :
    Calls Tryd.prog 9 #[.slice (some ⟨w.heap.size, 0, none⟩) 1 1] (w.alloc (.cells #[.string t] 9)) fun e w' => e = .returned (.bool b) ∧ w' = w.alloc (.cells #[.string t] 9) := by
  unfold maxLen at ht
  go_enter Tryd.func9, Tryd.ntmps9
  go_wp2
  go_loop [7] (fun i => ∃ j : Nat, j ≤ 1 ∧ i = .int .i64 j ∧ (0 < j → b = false)) (fun i => 1 - (intOf i).toNat)
  case atStart => exact ⟨0, by omega, rfl, fun h => absurd h (by omega)⟩
  case round =>
    obtain ⟨j, hj, rfl, h0⟩ := hrel
    rcases (by omega : j = 0 ∨ j = 1) with rfl | rfl
    · clear h0
      cases b
      · have q1 : (t.size : Int) ≤ 65536 := by have := of_decide_eq_false hb; omega
        clear hb
        go_wp2
        go_round
        case rel => exact ⟨1, by omega, by go_num, fun _ => by trivial⟩
        case measure => simp [intOf]
      · have q1 : (65536 : Int) < (t.size : Int) := by have := of_decide_eq_true hb; omega
        clear hb
        go_wp2
        go_ret
        exact ⟨rfl, rfl⟩
    · have h0 := h0 (by omega)
      subst h0
      go_wp2
      go_ret
      exact ⟨rfl, rfl⟩
/-- what ReadLine answers -/
def readV (l : By) : Value := if 65536 < l.length then .tuple #[.agg zA, .int .i64 2] else lineV (actR l)
theorem read5 (l : By) (w : World) (hn : Nm w) (hl : l.length ≤ maxLen) :
    Calls Tryd.prog 5 #[.string (bs l)] w fun e w' => e = .returned (readV l) ∧ Below w.heap.size w w' := by
  have hs := bs_size l
  have HB : Hid (Below w.heap.size w ((w.alloc (.cells zA 23)).alloc (.cells #[.string (bs l)] 9))) := hide (bl_al (bl_al (Below.refl _ _)))
  have RB : Hid (((w.alloc (.cells zA 23)).alloc (.cells #[.string (bs l)] 9)).heap[w.heap.size]? = some (.cells zA 23 (0, 0))) := hide (((bl_al (Below.refl _ _)).block _ (by simp)).trans (heap_alloc_new w _))
  have e1 : (w.alloc (.cells zA 23)).heap.size = w.heap.size + 1 := by simp
  have K9 := fun b hb => long9 (bs l) b (w.alloc (.cells zA 23)) hb (by rw [hs]; exact hl)
  rw [e1] at K9
  have HN := hide ((hn.step (.cells zA 23)).step (.cells #[.string (bs l)] 9))
  by_cases h : 65536 < l.length
  · have K := K9 true (decide_eq_true (by rw [hs]; exact h))
    rw [show readV l = .tuple #[.agg zA, .int .i64 2] by unfold readV; rw [if_pos h]]
    clear K9 h hs hn
    go_enter Tryd.func5, Tryd.ntmps5
    go_wp2_with (first | (go_at_call 9; refine K.mono ?_; rintro e w' ⟨rfl, rfl⟩) | (with_reducible change wpList _ _ _ ({ dst := none, op := Op.store 23 (Operand.tmp 2) _, type := _, pos := _, after := _, guard := _ } :: _) _ _; refine wpList_store_row rfl 23 _ _ rfl w.heap.size zA rfl rfl 23 zA (unhide RB) (by kernel_rfl) rfl (by kernel_rfl) ?_))
    refine bodyPost_ret (results_tmp_row rfl _ _ w.heap.size 23 zA (0, 0) _ (.int .i64 2) rfl rfl (get_setRow (unhide RB)) Tryd.underlying23 rfl (by kernel_rfl)) rfl ?_
    exact ⟨rfl, below_setRow (unhide HB) (Nat.le_refl _)⟩
  · have K := K9 false (decide_eq_false (by rw [hs]; exact h))
    rw [show readV l = lineV (actR l) by unfold readV; rw [if_neg h]]
    have K2 := hide (fun W a => actOf10 l W a (by omega))
    clear K9 h hs hn
    generalize actR l = o at *
    obtain ⟨cs, c, hcs, hi, h1, ho⟩ : ∃ cs c, zA.size = cs.size ∧ (Tryd.prog.info? 23).map (·.size) = some cs.size ∧ cs.all (·.oneCell') = true ∧ lineV o = .tuple #[.agg cs, .int .i64 c] := by
      cases o with
      | none => exact ⟨zA, 3, rfl, by kernel_rfl, by kernel_rfl, rfl⟩
      | some a => exact ⟨atA a, 0, rfl, by kernel_rfl, by kernel_rfl, rfl⟩
    rw [ho] at K2 ⊢
    have H1 := hide hcs
    have H2 := hide hi
    have H3 := hide h1
    clear hcs hi h1 ho
    go_enter Tryd.func5, Tryd.ntmps5
    go_wp2_with (first | (go_at_call 9; refine K.mono ?_; rintro e w' ⟨rfl, rfl⟩) | (go_at_call 10; refine (unhide K2 _ (unhide HN)).mono ?_; rintro e w2 ⟨rfl, hb⟩; have HB2 := hide (bl_st hb (unhide HB)); have RB2 := hide ((hb.block _ (by simp; omega)).trans (unhide RB)); clear hb) | (with_reducible change wpList _ _ _ ({ dst := none, op := Op.store 23 (Operand.tmp 2) _, type := _, pos := _, after := _, guard := _ } :: _) _ _; refine wpList_store_row rfl 23 _ _ rfl w.heap.size cs rfl rfl 23 zA (unhide RB2) (unhide H2) (unhide H1) (unhide H3) ?_))
    refine bodyPost_ret (results_tmp_row rfl _ _ w.heap.size 23 cs (0, 0) _ (.int .i64 c) rfl rfl (get_setRow (unhide RB2)) Tryd.underlying23 rfl (unhide H2)) rfl ?_
    exact ⟨rfl, below_setRow (unhide HB2) (Nat.le_refl _)⟩
end Go.Proofs.YtbkcgkffafjbgaaDoor
