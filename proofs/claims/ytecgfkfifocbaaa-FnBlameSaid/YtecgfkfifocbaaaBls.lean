/- BlameHop, the specification's side. -/
import Derived.Test.YtecgfkfifocbaaaBla
namespace Go.Proofs.Ytecgfkfifocbaaa
open Go.RowKit
set_option maxHeartbeats 4000000
set_option maxRecDepth 20000
theorem results_tmp_row {P : Program} {fn : Func} {p u : Tmp} {ty : TypeId} (h : fn.results = #[.cell p ty, .tmp u]) (tmps : Array Value) (w : World) (g : Nat) (t : TypeId) (cs : Array Value) (fr : Nat × Nat) (d : TypeDesc) (x : Value)
    (hp : tmps.getD p undef = .pointer (some ⟨g, 0, none⟩)) (hx : tmps.getD u undef = x) (hg : w.heap[g]? = some (.cells cs t fr))
    (hu : P.underlying ty = some d) (hd : (match d with | .struct _ | .array _ _ => true | _ => false) = true) (hi : (P.info? ty).map (·.size) = some cs.size) :
    (results fn tmps).run P w = .ok (.tuple #[.agg cs, x]) w := by
  rw [results_cell_tmp h, hp, hx]
  simp [asAddr, run_loadVar_row w g t ty cs fr d hg hu hd hi]
/-- forms and batches that are right -/
def bOK (ts : List ByteArray) (xss : List (List ByteArray)) : Bool := decide (xss.length ≤ 5) && decide (ts.length = xss.length) && itB ts && xss.all itB
def bC (ts : List ByteArray) (xss : List (List ByteArray)) : Int := if 4096 < ts.length ∨ 4096 < xss.length then 2 else if bOK ts xss = true then 0 else 1
def bP (ts : List ByteArray) (xss : List (List ByteArray)) : Int × Bool := if bC ts xss = 0 then blm ts xss else (0, false)
/-- a verdict as a value -/
abbrev vV (h : Int) (l : Bool) : Value := .agg #[.int .i64 h, .bool l]
def outB (W : World) (ts : List ByteArray) (xss : List (List ByteArray)) (e : Ending) (w' : World) : Prop := e = .returned (.tuple #[vV (bP ts xss).1 (bP ts xss).2, .int .i64 (bC ts xss)]) ∧ Below W.heap.size W w'
theorem outB_two {W w' : World} {ts : List ByteArray} {xss : List (List ByteArray)} (h : 4096 < ts.length ∨ 4096 < xss.length) (hb : Below W.heap.size W w') : outB W ts xss (.returned (.tuple #[vV 0 false, .int .i64 2])) w' := by
  have e : bC ts xss = 2 := by unfold bC; rw [if_pos h]
  unfold outB bP
  rw [e]
  exact ⟨rfl, hb⟩
theorem outB_one {W w' : World} {ts : List ByteArray} {xss : List (List ByteArray)} (h : ¬ (4096 < ts.length ∨ 4096 < xss.length)) (h2 : bOK ts xss = false) (hb : Below W.heap.size W w') : outB W ts xss (.returned (.tuple #[vV 0 false, .int .i64 1])) w' := by
  have e : bC ts xss = 1 := by unfold bC; rw [if_neg h, h2]; rfl
  unfold outB bP
  rw [e]
  exact ⟨rfl, hb⟩
theorem outB_yes {W w' : World} {ts : List ByteArray} {xss : List (List ByteArray)} (h : ¬ (4096 < ts.length ∨ 4096 < xss.length)) (h2 : bOK ts xss = true) (hb : Below W.heap.size W w') : outB W ts xss (.returned (.tuple #[vV (blm ts xss).1 (blm ts xss).2, .int .i64 0])) w' := by
  have e : bC ts xss = 0 := by unfold bC; rw [if_neg h, h2]; rfl
  unfold outB bP
  rw [e, if_pos rfl]
  exact ⟨rfl, hb⟩
theorem allL_no {xss : List (List ByteArray)} (j : Nat) (hj : j < xss.length) (h : itB (xss.getD j []) = false) : xss.all itB = false := by
  rw [List.all_eq_false]
  refine ⟨xss.getD j [], ?_, by rw [h]; decide⟩
  rw [List.getD_eq_getElem?_getD, List.getElem?_eq_getElem hj]
  exact List.getElem_mem hj
theorem allL_yes {xss : List (List ByteArray)} (h : ∀ j, j < xss.length → itB (xss.getD j []) = true) : xss.all itB = true := by
  rw [List.all_eq_true]
  intro x hx
  obtain ⟨j, hj, rfl⟩ := List.mem_iff_getElem.1 hx
  have := h j hj
  rwa [List.getD_eq_getElem?_getD, List.getElem?_eq_getElem hj] at this
theorem itC_zero {xs : List ByteArray} (h : itC xs = 0) : itB xs = true := by
  unfold itC at h
  by_cases h1 : 4096 < xs.length
  · rw [if_pos h1] at h; exact absurd h (by decide)
  · rw [if_neg h1] at h
    cases hb : itB xs
    · rw [hb] at h; exact absurd h (by decide)
    · rfl
theorem itC_not {xs : List ByteArray} (h : itC xs ≠ 0) : itB xs = false := by
  cases hb : itB xs
  · rfl
  · exfalso
    refine h ?_
    unfold itC
    have h1 : ¬ 4096 < xs.length := by
      unfold itB at hb
      rw [Bool.and_eq_true, decide_eq_true_iff] at hb
      omega
    rw [if_neg h1, hb]; rfl
theorem bOK_one {ts : List ByteArray} {xss : List (List ByteArray)} (h : ¬ xss.length ≤ 5) : bOK ts xss = false := by unfold bOK; rw [decide_eq_false h]; rfl
theorem bOK_two {ts : List ByteArray} {xss : List (List ByteArray)} (h : ¬ ts.length = xss.length) : bOK ts xss = false := by unfold bOK; rw [decide_eq_false h, Bool.and_false]; rfl
theorem bOK_three {ts : List ByteArray} {xss : List (List ByteArray)} (h : itB ts = false) : bOK ts xss = false := by unfold bOK; rw [h, Bool.and_false]; rfl
theorem bOK_four {ts : List ByteArray} {xss : List (List ByteArray)} (h : xss.all itB = false) : bOK ts xss = false := by unfold bOK; rw [h, Bool.and_false]
theorem bOK_all {ts : List ByteArray} {xss : List (List ByteArray)} (h : xss.length ≤ 5) (h2 : ts.length = xss.length) (h3 : itB ts = true) (h4 : xss.all itB = true) : bOK ts xss = true := by unfold bOK; rw [decide_eq_true h, decide_eq_true h2, h3, h4]; rfl
theorem blame12 (v vb : Value) (ts : List ByteArray) (xss : List (List ByteArray)) (w : World) (hv : strsV w v ts) (hb : lssV w vb xss) (hn : ts.length ≤ 1048576) (hf : fewL xss) :
    Calls Try.prog 12 #[v, vb] w (outB w ts xss) := by
  have HV := hide hv
  have HB := hide hb
  have HF := hide hf
  have HN := hide hn
  obtain ⟨A, ca, rfl, hc⟩ := hv
  obtain ⟨A2, cb, rfl, hd⟩ := hb
  have HD := hide hd
  have hm := hf.1
  obtain ⟨N, hN⟩ : ∃ N, N = ts.length := ⟨_, rfl⟩
  obtain ⟨M, hM⟩ : ∃ M, M = xss.length := ⟨_, rfl⟩
  have HEN := hide hN
  have HEM := hide hM
  rw [← hN] at hn HV ⊢
  rw [← hM] at hm HD HB ⊢
  have n0 : (0 : Int) ≤ (N : Int) := by omega
  have n1 : (N : Int) ≤ 1048576 := by omega
  have m0 : (0 : Int) ≤ (M : Int) := by omega
  have m1 : (M : Int) ≤ 1048576 := by omega
  have N1 : Hid (Below w.heap.size w (w.alloc (.cells #[.int .i64 0, .bool false] 32)) ∧ (w.alloc (.cells #[.int .i64 0, .bool false] 32)).heap[w.heap.size]? = some (.cells #[.int .i64 0, .bool false] 32 (0, 0))) := hide ⟨bl_al (Below.refl _ _), heap_at _ _ _ rfl⟩
  have d0 : (w.alloc (.cells #[.int .i64 0, .bool false] 32)).cell? ⟨w.heap.size, 0, none⟩ = some (.int .i64 0) := row_cell (unhide N1).2
  have d1 : (w.alloc (.cells #[.int .i64 0, .bool false] 32)).cell? ⟨w.heap.size, 1, none⟩ = some (.bool false) := row_cell (unhide N1).2
  have f0 := row_free (i := 0) (unhide N1).2
  have f1 := row_free (i := 1) (unhide N1).2
  clear hc hd hf hn hm hN hM
  by_cases h1 : 4096 < N
  · have q : (4096 : Int) < (N : Int) := by omega
    have HE := hide (outB_two (W := w) (w' := w.alloc (.cells #[.int .i64 0, .bool false] 32)) (.inl (by rw [← unhide HEN]; exact h1) : 4096 < ts.length ∨ 4096 < xss.length) (unhide N1).1)
    clear h1 d0 d1 f0 f1
    go_enter Try.func12, Try.ntmps12
    go_wp2
    refine bodyPost_ret (results_tmp_row (P := Try.prog) rfl _ _ w.heap.size _ _ _ _ _ rfl rfl (heap_at _ _ _ rfl) Try.underlying32 rfl (by kernel_rfl)) rfl ?_
    exact unhide HE
  have q1 : (N : Int) ≤ 4096 := by omega
  by_cases h2 : 4096 < M
  · have q : (4096 : Int) < (M : Int) := by omega
    have HE := hide (outB_two (W := w) (w' := w.alloc (.cells #[.int .i64 0, .bool false] 32)) (.inr (by rw [← unhide HEM]; exact h2) : 4096 < ts.length ∨ 4096 < xss.length) (unhide N1).1)
    clear h1 h2 d0 d1 f0 f1
    go_enter Try.func12, Try.ntmps12
    go_wp2
    refine bodyPost_ret (results_tmp_row (P := Try.prog) rfl _ _ w.heap.size _ _ _ _ _ rfl rfl (heap_at _ _ _ rfl) Try.underlying32 rfl (by kernel_rfl)) rfl ?_
    exact unhide HE
  have q2 : (M : Int) ≤ 4096 := by omega
  have H12 : Hid (¬ (4096 < ts.length ∨ 4096 < xss.length)) := hide (by rw [← unhide HEN, ← unhide HEM]; omega)
  clear h1 h2 n1 m1
  by_cases h3 : 5 < M
  · have q : (5 : Int) < (M : Int) := by omega
    have HE := hide (outB_one (W := w) (w' := w.alloc (.cells #[.int .i64 0, .bool false] 32)) (unhide H12) (bOK_one (by rw [← unhide HEM]; omega)) (unhide N1).1)
    clear h3 d0 d1 f0 f1
    go_enter Try.func12, Try.ntmps12
    go_wp2
    refine bodyPost_ret (results_tmp_row (P := Try.prog) rfl _ _ w.heap.size _ _ _ _ _ rfl rfl (heap_at _ _ _ rfl) Try.underlying32 rfl (by kernel_rfl)) rfl ?_
    exact unhide HE
  have q3 : (M : Int) ≤ 5 := by omega
  by_cases h4 : N = M
  · subst h4
    go_enter Try.func12, Try.ntmps12
    go_wp2_with fail
    generalize w.alloc (.cells #[.int .i64 0, .bool false] 32) = w1 at *
    refine (items20 _ ts w1 ((unhide HV).below (unhide N1).1) (by have := unhide HN; omega)).mono ?_
    rintro e w' ⟨rfl, hw'⟩
    have hw2 := hw'.symm
    subst hw2
    by_cases hc : itC ts = 0
    · have H3 := hide (itC_zero hc)
      rw [hc]
      clear hc
      go_wp2
      go_loopw [6] (fun i wr => ∃ j : Nat, j ≤ N ∧ i = .int .i64 j ∧ (∀ i, i < j → itB (xss.getD i []) = true) ∧ wr = w1) (fun i _ => N - (intOf i).toNat)
      case atStart => exact ⟨0, Nat.zero_le _, rfl, fun i h => absurd h (Nat.not_lt_zero i), rfl⟩
      case round =>
        obtain ⟨j, hj, rfl, hg, hwr⟩ := hrel
        subst hwr
        have q0 : (0 : Int) ≤ (j : Int) := by omega
        by_cases hlt : j < N
        · obtain ⟨b, off, hA, hbb, hcell⟩ := unhide HD (by omega)
          subst hA
          have q4 : (j : Int) < (N : Int) := by omega
          obtain ⟨u, r, pu⟩ := hcell j hlt
          have p0 : wr.cell? ⟨b, off + j, none⟩ = some u := (cell_below (unhide N1).1 hbb).trans r
          have K := hide (items20 u (xss.getD j []) wr (pu.below (unhide N1).1) (by have := (unhide HF).2 j (by rw [← unhide HEM]; exact hlt); omega))
          obtain ⟨Au, cu, rfl, _⟩ := pu
          have HJ := hide hlt
          have HG := hide hg
          clear hcell hlt hj hg r hbb
          generalize hxj : xss.getD j [] = xj at *
          have HX := hide hxj
          clear hxj
          go_wp2_with fail
          refine (unhide K).mono ?_
          rintro e w' ⟨rfl, hw'⟩
          have hw2 := hw'.symm
          subst hw2
          clear K
          by_cases hc : itC xj = 0
          · have H4 := hide (itC_zero hc)
            rw [hc]
            clear hc p0
            go_wp2
            go_roundw
            case rel => exact ⟨j + 1, unhide HJ, by go_num, fun i hi => by rcases Nat.lt_succ_iff_lt_or_eq.1 hi with h | h; exact unhide HG i h; rw [h, unhide HX]; exact unhide H4, by first | rfl | trivial⟩
            case measure => have := unhide HJ; simp [intOf]; omega
          · have HE := hide (outB_one (W := w) (w' := (wr.setCell ⟨w.heap.size, 0, none⟩ (.int .i64 0)).setCell ⟨w.heap.size, 1, none⟩ (.bool false)) (unhide H12) (bOK_four (allL_no j (by rw [← unhide HEM]; exact unhide HJ) (by rw [unhide HX]; exact itC_not hc))) (bl_set (bl_set (unhide N1).1 (Nat.le_refl _)) (Nat.le_refl _)))
            have hb : (itC xj != 0) = true := by simp [hc]
            clear hc p0
            generalize itC xj = c at *
            go_wp2
            refine bodyPost_ret (results_tmp_row (P := Try.prog) rfl _ _ w.heap.size _ _ _ _ _ rfl rfl (put2 (unhide N1).2 _ _) Try.underlying32 rfl (by kernel_rfl)) rfl ?_
            exact unhide HE
        · obtain rfl : j = N := by omega
          have H4 := hide (allL_yes (xss := xss) (by rw [← unhide HEM]; exact hg))
          have HY := hide (fun w' hb => outB_yes (W := w) (w' := w') (unhide H12) (bOK_all (by rw [← unhide HEM]; omega) (by rw [← unhide HEM, ← unhide HEN]) (unhide H3) (unhide H4)) hb)
          have K := hide (blame24 _ _ ts xss wr ((unhide HV).below (unhide N1).1) ((unhide HB).below (unhide N1).1) (by rw [← unhide HEM, ← unhide HEN]) (by rw [← unhide HEN]; omega) (fun i hi => by have := (unhide HF).2 i hi; omega))
          clear hlt hg
          generalize blm ts xss = R at *
          go_wp2_with fail
          refine (unhide K).mono ?_
          rintro e w5 ⟨rfl, b5⟩
          have hg5 : w5.heap[w.heap.size]? = some (.cells #[.int .i64 0, .bool false] 32 (0, 0)) := (b5.block _ (Array.getElem?_eq_some_iff.1 (unhide N1).2).1).trans (unhide N1).2
          have x0 : w5.cell? ⟨w.heap.size, 0, none⟩ = some (.int .i64 0) := row_cell hg5
          have x1 : w5.cell? ⟨w.heap.size, 1, none⟩ = some (.bool false) := row_cell hg5
          have y0 := row_free (i := 0) hg5
          have y1 := row_free (i := 1) hg5
          have HG5 := hide hg5
          have B5 := hide (bl_st b5 (unhide N1).1)
          clear hg5 b5 K d0 d1 f0 f1
          go_wp2
          refine bodyPost_ret (results_tmp_row (P := Try.prog) rfl _ _ w.heap.size _ _ _ _ _ rfl rfl (put2 (unhide HG5) _ _) Try.underlying32 rfl (by kernel_rfl)) rfl ?_
          exact unhide HY _ (bl_set (bl_set (unhide B5) (Nat.le_refl _)) (Nat.le_refl _))
    · have HE := hide (outB_one (W := w) (w' := (w1.setCell ⟨w.heap.size, 0, none⟩ (.int .i64 0)).setCell ⟨w.heap.size, 1, none⟩ (.bool false)) (unhide H12) (bOK_three (itC_not hc)) (bl_set (bl_set (unhide N1).1 (Nat.le_refl _)) (Nat.le_refl _)))
      have hb : (itC ts != 0) = true := by simp [hc]
      clear hc
      generalize itC ts = c at *
      go_wp2
      refine bodyPost_ret (results_tmp_row (P := Try.prog) rfl _ _ w.heap.size _ _ _ _ _ rfl rfl (put2 (unhide N1).2 _ _) Try.underlying32 rfl (by kernel_rfl)) rfl ?_
      exact unhide HE
  · have q : ((N : Int) != (M : Int)) = true := by simp; omega
    have HE := hide (outB_one (W := w) (w' := w.alloc (.cells #[.int .i64 0, .bool false] 32)) (unhide H12) (bOK_two (by rw [← unhide HEM, ← unhide HEN]; omega)) (unhide N1).1)
    clear h3 h4 d0 d1 f0 f1
    go_enter Try.func12, Try.ntmps12
    go_wp2
    refine bodyPost_ret (results_tmp_row (P := Try.prog) rfl _ _ w.heap.size _ _ _ _ _ rfl rfl (heap_at _ _ _ rfl) Try.underlying32 rfl (by kernel_rfl)) rfl ?_
    exact unhide HE

end Go.Proofs.Ytecgfkfifocbaaa
