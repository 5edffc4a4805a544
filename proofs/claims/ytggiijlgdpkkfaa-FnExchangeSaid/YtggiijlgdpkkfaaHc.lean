/- AccessHistogram, the specification's; the law. -/
import Derived.Test.YtggiijlgdpkkfaaHi
namespace Go.Proofs.Ytggiijlgdpkkfaa
open Go.RowKit Go.Maps
set_option maxHeartbeats 4000000
set_option maxRecDepth 20000
theorem beq_txt (x t : ByteArray) : (x.toList == t.toList) = decide (x = t) := by
  rw [Bool.eq_iff_iff, beq_iff_eq, decide_eq_true_iff, ByteArray.toList_eq, ByteArray.toList_eq]
  constructor
  · intro h
    cases x; cases t
    simp at h
    simp [h]
  · rintro rfl; rfl
theorem bit64 (b : Bool) (w : World) : Calls Try.prog 64 #[.bool b] w fun e w' => e = .returned (.int .i64 (if b = true then 1 else 0)) ∧ w' = w := by
  cases b
  · go_enter Try.func64, Try.ntmps64
    go_wp2
    go_ret
    exact ⟨rfl, rfl⟩
  · go_enter Try.func64, Try.ntmps64
    go_wp2
    go_ret
    exact ⟨rfl, rfl⟩
theorem strsV.cut {w : World} {A : Option Addr} {n cap : Nat} {ts : List ByteArray} (h : strsV w (.slice A n cap) ts) (i : Nat) (hi : i ≤ ts.length) : strsV w (.slice A i cap) (ts.take i) := by
  obtain ⟨B, c, e, hc⟩ := h
  injection e with e1 e2 e3
  subst e1 e3
  refine ⟨_, _, by rw [List.length_take, Nat.min_eq_left hi], fun h0 => ?_⟩
  rw [List.length_take, Nat.min_eq_left hi] at h0
  obtain ⟨b, off, hA, hb, hcell⟩ := hc (by omega)
  refine ⟨b, off, hA, hb, fun k hk => ?_⟩
  rw [List.length_take, Nat.min_eq_left hi] at hk
  rw [hcell k (by omega), List.getD_eq_getElem?_getD, List.getD_eq_getElem?_getD, List.getElem?_take_of_lt hk]
theorem cn_take (ts : List ByteArray) (j : Nat) (h : j < ts.length) (t : ByteArray) : cn (ts.take (j + 1)) t = cn (ts.take j) t + if ts.getD j noS = t then 1 else 0 := by
  rw [← List.take_append_getElem h, cn_snoc, show ts[j] = ts.getD j noS by rw [List.getD_eq_getElem?_getD, List.getElem?_eq_getElem h]; rfl]
theorem count58 (v : Value) (ts : List ByteArray) (t : ByteArray) (w : World) (hv : strsV w v ts) (hn : ts.length ≤ 1048576) :
    Calls Try.prog 58 #[v, .string t] w fun e w' => e = .returned (.int .i64 ((cn ts t : Nat) : Int)) ∧ w' = w := by
  obtain ⟨A, cap, rfl, hc⟩ := hv
  have HC := hide hc
  clear hc
  have n0 : (0 : Int) ≤ (ts.length : Int) := by omega
  have n1 : (ts.length : Int) ≤ 1048576 := by omega
  go_enter Try.func58, Try.ntmps58
  go_wp2
  go_loopw [5, 6] (fun n i wr => ∃ j : Nat, j ≤ ts.length ∧ i = .int .i64 j ∧ n = .int .i64 ((cn (ts.take j) t : Nat) : Int) ∧ wr = w) (fun _ i _ => ts.length - (intOf i).toNat)
  case atStart => exact ⟨0, by omega, rfl, rfl, rfl⟩
  case round =>
    obtain ⟨j, hj, rfl, rfl, hwr⟩ := hrel
    subst hwr
    by_cases hlt : j < ts.length
    · obtain ⟨b, off, hA, hbb, hcell⟩ := unhide HC (by omega)
      subst hA
      have q1 : (j : Int) < (ts.length : Int) := by omega
      have q0 : (0 : Int) ≤ (j : Int) := by omega
      have p0 := hcell j hlt
      have HJ := hide hlt
      have HT := hide (cn_take ts j hlt t)
      have m1 : ((cn (ts.take j) t : Nat) : Int) ≤ 1048576 := by
        have := cn_le (ts.take j) t
        rw [List.length_take] at this
        omega
      clear hcell hlt hj hbb
      generalize cn (ts.take j) t = m at *
      generalize ts.getD j noS = x at *
      have m0 : (0 : Int) ≤ (m : Int) := by omega
      go_wp2_with fail
      refine (bit64 _ _).mono ?_
      rintro e w' ⟨rfl, hw'⟩
      have hw2 := hw'.symm
      subst hw2
      rw [beq_txt]
      by_cases e : x = t
      · have HT2 : Hid (cn (ts.take (j + 1)) t = m + 1) := hide (by rw [unhide HT, if_pos e])
        rw [decide_eq_true e, if_pos rfl]
        clear HT e
        go_wp2
        go_roundw
        case rel => exact ⟨j + 1, unhide HJ, by go_num, by rw [unhide HT2]; rfl, by first | rfl | trivial⟩
        case measure => have := unhide HJ; simp [intOf]; omega
      · have HT2 : Hid (cn (ts.take (j + 1)) t = m) := hide (by rw [unhide HT, if_neg e]; rfl)
        rw [decide_eq_false e, if_neg (by decide)]
        clear HT e
        go_wp2
        go_roundw
        case rel => exact ⟨j + 1, unhide HJ, by go_num, by rw [unhide HT2], by first | rfl | trivial⟩
        case measure => have := unhide HJ; simp [intOf]; omega
    · obtain rfl : j = ts.length := by omega
      rw [List.take_length]
      clear hlt
      go_wp2
      go_ret
      exact ⟨rfl, rfl⟩
/-- those that came up to j -/
def dnT (ts : List ByteArray) (j : Nat) (k : ByteArray) : Bool := decide (0 < cn (ts.take j) k)
theorem dnT_old {ts : List ByteArray} {j : Nat} (h : j < ts.length) (h0 : 0 < cn (ts.take j) (ts.getD j noS)) (m : Nat) : hsL ts (dnT ts (j + 1)) m = hsL ts (dnT ts j) m := by
  refine hsL_congr ts m fun k _ => ?_
  unfold dnT
  rw [cn_take ts j h]
  by_cases e : ts.getD j noS = k
  · subst e; rw [if_pos rfl, decide_eq_true h0, decide_eq_true (by omega)]
  · rw [if_neg e, Nat.add_zero]
theorem dnT_new {ts : List ByteArray} {j : Nat} (h : j < ts.length) (h0 : ¬ 0 < cn (ts.take j) (ts.getD j noS)) (m : Nat) : hsL ts (dnT ts (j + 1)) m = hsL ts (dnT ts j) m + if cls (cn ts (ts.getD j noS)) = m then 1 else 0 := by
  rw [← hsL_more ts (dnT ts j) (ts.getD j noS) m (by rw [List.getD_eq_getElem?_getD, List.getElem?_eq_getElem h]; exact List.getElem_mem h) (decide_eq_false h0)]
  refine hsL_congr ts m fun k _ => ?_
  unfold dnT
  rw [cn_take ts j h]
  by_cases e : ts.getD j noS = k
  · subst e; rw [if_pos rfl, decide_eq_true rfl, Bool.or_true, decide_eq_true (by omega)]
  · rw [if_neg e, Nat.add_zero, decide_eq_false (show ¬ k = ts.getD j noS from fun q => e q.symm), Bool.or_false]
theorem dnT_end (ts : List ByteArray) (m : Nat) : hsL ts (dnT ts ts.length) m = hs ts m := by
  refine hsL_congr ts m fun k hk => ?_
  unfold dnT
  rw [List.take_length, decide_eq_true (cn_pos.2 hk)]
theorem dnT_start (ts : List ByteArray) (m : Nat) : hsL ts (dnT ts 0) m = 0 := by
  rw [show dnT ts 0 = fun _ => false from funext fun k => by simp [dnT, cn], hsL_none]
abbrev h3L (ts : List ByteArray) (j : Nat) : List Int := [((hsL ts (dnT ts j) 1 : Nat) : Int), ((hsL ts (dnT ts j) 2 : Nat) : Int), ((hsL ts (dnT ts j) 3 : Nat) : Int)]
/-- a slice of texts with its room said -/
def strsC (w : World) (v : Value) (ts : List ByteArray) : Prop := strsV w v ts ∧ ∃ A n cap, v = .slice A n cap ∧ ts.length ≤ cap
theorem ownS.strsC {lo hi : Nat} {w : World} {v : Value} {ts : List ByteArray} (h : ownS lo hi w v ts) : strsC w v ts := by
  refine ⟨h.strs, ?_⟩
  rcases h with ⟨rfl, rfl⟩ | ⟨g, cap, rest, rfl, _, _, _, hc⟩
  · exact ⟨_, _, _, rfl, Nat.le_refl _⟩
  · exact ⟨_, _, _, rfl, hc⟩
theorem hist38 (v : Value) (ts : List ByteArray) (w : World) (hvc : strsC w v ts) (hn : ts.length ≤ 1048576) :
    Calls Try.prog 38 #[v] w fun e w' => e = .returned (hV ((hs ts 1 : Nat) : Int) ((hs ts 2 : Nat) : Int) ((hs ts 3 : Nat) : Int)) ∧ Below w.heap.size w w' := by
  obtain ⟨hv, A', n', cap', hcv, hcap⟩ := hvc
  have HV := hide hv
  have HN := hide hn
  obtain ⟨A, cap, rfl, hc⟩ := hv
  simp only [Value.slice.injEq] at hcv
  obtain ⟨rfl, rfl, rfl⟩ := hcv
  have HC := hide hc
  clear hc
  have n0 : (0 : Int) ≤ (ts.length : Int) := by omega
  have n1 : (ts.length : Int) ≤ 1048576 := by omega
  have HCP := hide hcap
  clear hn hcap
  have HW0 : Hid (Hw w ((w.alloc (.cells #[.int .i64 0, .int .i64 0, .int .i64 0] 29)).alloc (.cells #[.int .i64 0, .int .i64 0, .int .i64 0] 29)) ∧ ((w.alloc (.cells #[.int .i64 0, .int .i64 0, .int .i64 0] 29)).alloc (.cells #[.int .i64 0, .int .i64 0, .int .i64 0] 29)).heap[w.heap.size + 1]? = some (rowObj 29 .i64 (h3L ts 0) [])) := hide ⟨⟨bl_al (bl_al (Below.refl _ _)), ((bl_al (Below.refl _ _)).block _ (by simp)).trans (heap_at w _ _ rfl), by simp⟩, by rw [heap_at _ _ _ (by simp)]; unfold h3L; rw [dnT_start, dnT_start, dnT_start]; rfl⟩
  go_enter Try.func38, Try.ntmps38
  go_wp2
  go_loopw [4] (fun i wr => ∃ j : Nat, j ≤ ts.length ∧ i = .int .i64 j ∧ wr.heap[w.heap.size + 1]? = some (rowObj 29 .i64 (h3L ts j) []) ∧ Hw w wr) (fun i _ => ts.length - (intOf i).toNat)
  case atStart => exact ⟨0, by omega, rfl, (unhide HW0).2, (unhide HW0).1⟩
  case round =>
    obtain ⟨j, hj, rfl, hrow, hw⟩ := hrel
    by_cases hlt : j < ts.length
    · obtain ⟨b, off, hA, hbb, hcell⟩ := unhide HC (by omega)
      subst hA
      have q1 : (j : Int) < (ts.length : Int) := by omega
      have q0 : (0 : Int) ≤ (j : Int) := by omega
      have q2 : (j : Int) ≤ (cap : Int) := by have := unhide HCP; omega
      have sl : ∀ W, (Instr.slice 25 (.slice (some ⟨b, off, none⟩) ts.length cap) none (some (.int .i64 (j : Int))) none).run Try.prog W = .ok (.slice (some ⟨b, off, none⟩) j cap) W := fun W => by go_simp
      have p0 : ∀ k, (wr.drewN k).cell? ⟨b, off + j, none⟩ = some (.string (ts.getD j noS)) := fun k => (cell_below hw.b hbb).trans (hcell j hlt)
      have K1 := hide (fun k => count58 (.slice (some ⟨b, off, none⟩) j cap) (ts.take j) (ts.getD j noS) (wr.drewN k) (strsV.cut ((unhide HV).below (below_drewN hw.b k)) j (by omega)) (by rw [List.length_take]; have := unhide HN; omega))
      have K2 := hide (fun k => count58 (.slice (some ⟨b, off, none⟩) ts.length cap) ts (ts.getD j noS) (wr.drewN k) ((unhide HV).below (below_drewN hw.b k)) (unhide HN))
      have HO := hide (dnT_old hlt)
      have HW := hide (dnT_new hlt)
      have HJ := hide hlt
      have HR := hide hrow
      have HWW := hide hw
      have HBD := hide (fun m => hsL_le ts (dnT ts j) m)
      have HPS : Hid (0 < cn ts (ts.getD j noS)) := hide (cn_pos.2 (by rw [List.getD_eq_getElem?_getD, List.getElem?_eq_getElem hlt]; exact List.getElem_mem hlt))
      have HCL := hide (cn_le ts (ts.getD j noS))
      clear hcell hlt hj hbb hw hrow HW0
      generalize ts.getD j noS = t at *
      go_wp2
      go_quiet ((go_at_call 58; refine Calls.quiet_of_same (unhide K1 _)))
      have pZ : (wr.drewN nq).cell? ⟨b, off + j, none⟩ = some (.string t) := p0 nq
      have KZ := hide (unhide K2 nq)
      have HRZ : Hid ((wr.drewN nq).heap[w.heap.size + 1]? = some (rowObj 29 .i64 (h3L ts j) [])) := hide (unhide HR)
      have HWZ : Hid (Hw w (wr.drewN nq)) := hide ⟨below_drewN (unhide HWW).b nq, (unhide HWW).r, (unhide HWW).s⟩
      clear p0 K1 K2 HR HWW sl
      generalize wr.drewN nq = Z at *
      by_cases h0 : 0 < cn (ts.take j) t
      · have HL : Hid (h3L ts (j + 1) = h3L ts j) := hide (by unfold h3L; rw [unhide HO h0 1, unhide HO h0 2, unhide HO h0 3])
        rw [decide_eq_true h0]
        clear HO HW KZ HBD pZ
        go_wp2
        go_roundw
        case rel => exact ⟨j + 1, unhide HJ, by go_num, by rw [unhide HL]; exact unhide HRZ, unhide HWZ⟩
        case measure => have := unhide HJ; simp [intOf]; omega
      · have HE := hide (unhide HW h0)
        rw [decide_eq_false h0]
        have hpos : 0 < cn ts t := unhide HPS
        have hle := unhide HCL
        clear HO HW h0
        generalize cn ts t = n at *
        have hrz := unhide HRZ
        have c0 := cell_rowQ hrz 0 (by simp)
        have c1 := cell_rowQ hrz 1 (by simp)
        have c2 := cell_rowQ hrz 2 (by simp)
        have f0 := free_rowQ hrz 0
        have f1 := free_rowQ hrz 1
        have f2 := free_rowQ hrz 2
        have s0 := set_rowQ hrz 0 (((hsL ts (dnT ts j) 1 : Nat) : Int) + 1) (by simp)
        have s1 := set_rowQ hrz 1 (((hsL ts (dnT ts j) 2 : Nat) : Int) + 1) (by simp)
        have s2 := set_rowQ hrz 2 (((hsL ts (dnT ts j) 3 : Nat) : Int) + 1) (by simp)
        simp only [List.getD_cons_succ, List.getD_cons_zero] at c0 c1 c2
        simp only [h3L, List.set_cons_zero, List.set_cons_succ] at s0 s1 s2
        have b1 := unhide HBD 1
        have b2 := unhide HBD 2
        have b3 := unhide HBD 3
        have S0 := hide s0
        have S1 := hide s1
        have S2 := hide s2
        have E1 := hide (unhide HE 1)
        have E2 := hide (unhide HE 2)
        have E3 := hide (unhide HE 3)
        have HL : Hid (h3L ts (j + 1) = [((hsL ts (dnT ts j) 1 + (if cls n = 1 then 1 else 0) : Nat) : Int), ((hsL ts (dnT ts j) 2 + (if cls n = 2 then 1 else 0) : Nat) : Int), ((hsL ts (dnT ts j) 3 + (if cls n = 3 then 1 else 0) : Nat) : Int)]) := hide (by unfold h3L; rw [unhide E1, unhide E2, unhide E3])
        clear hrz s0 s1 s2 HRZ HE E1 E2 E3 HBD
        generalize hsL ts (dnT ts j) 1 = x1 at *
        generalize hsL ts (dnT ts j) 2 = x2 at *
        generalize hsL ts (dnT ts j) 3 = x3 at *
        have y1 : (x1 : Int) ≤ 1048576 := by omega
        have y2 : (x2 : Int) ≤ 1048576 := by omega
        have y3 : (x3 : Int) ≤ 1048576 := by omega
        have z1 : (0 : Int) ≤ (x1 : Int) := by omega
        have z2 : (0 : Int) ≤ (x2 : Int) := by omega
        have z3 : (0 : Int) ≤ (x3 : Int) := by omega
        clear b1 b2 b3
        go_wp2_with fail
        refine (unhide KZ).mono ?_
        rintro e w' ⟨rfl, hw'⟩
        have hw2 := hw'.symm
        subst hw2
        clear KZ hw'
        rcases (show n = 1 ∨ n = 2 ∨ 3 ≤ n by omega) with rfl | rfl | h3
        · have HL2 : Hid (h3L ts (j + 1) = [(x1 : Int) + 1, (x2 : Int), (x3 : Int)]) := hide (by rw [unhide HL]; rfl)
          clear HL S1 S2 hpos hle
          go_wp2
          go_roundw
          case rel => exact ⟨j + 1, unhide HJ, by go_num, by rw [unhide HL2]; exact unhide S0, (unhide HWZ).set (by omega)⟩
          case measure => have := unhide HJ; simp [intOf]; omega
        · have HL2 : Hid (h3L ts (j + 1) = [(x1 : Int), (x2 : Int) + 1, (x3 : Int)]) := hide (by rw [unhide HL]; rfl)
          clear HL S0 S2 hpos hle
          go_wp2
          go_roundw
          case rel => exact ⟨j + 1, unhide HJ, by go_num, by rw [unhide HL2]; exact unhide S1, (unhide HWZ).set (by omega)⟩
          case measure => have := unhide HJ; simp [intOf]; omega
        · have hc : cls n = 3 := by unfold cls; omega
          have HL2 : Hid (h3L ts (j + 1) = [(x1 : Int), (x2 : Int), (x3 : Int) + 1]) := hide (by rw [unhide HL, hc]; rfl)
          have g1 : (3 : Int) ≤ (n : Int) := by omega
          have g2 : decide ((n : Int) = 1) = false := decide_eq_false (by omega)
          have g3 : decide ((n : Int) = 2) = false := decide_eq_false (by omega)
          clear HL S0 S1 hpos hle hc
          go_wp2
          go_roundw
          case rel => exact ⟨j + 1, unhide HJ, by go_num, by rw [unhide HL2]; exact unhide S2, (unhide HWZ).set (by omega)⟩
          case measure => have := unhide HJ; simp [intOf]; omega
    · obtain rfl : j = ts.length := by omega
      have HL : Hid (h3L ts ts.length = [((hs ts 1 : Nat) : Int), ((hs ts 2 : Nat) : Int), ((hs ts 3 : Nat) : Int)]) := hide (by unfold h3L; rw [dnT_end, dnT_end, dnT_end])
      rw [unhide HL] at hrow
      have c0 := cell_rowQ hrow 0 (by simp)
      have c1 := cell_rowQ hrow 1 (by simp)
      have c2 := cell_rowQ hrow 2 (by simp)
      simp only [List.getD_cons_succ, List.getD_cons_zero] at c0 c1 c2
      have hr := hw.r
      have d0 : wr.cell? ⟨w.heap.size, 0, none⟩ = some (.int .i64 0) := row_cell hr
      have d1 : wr.cell? ⟨w.heap.size, 1, none⟩ = some (.int .i64 0) := row_cell hr
      have d2 : wr.cell? ⟨w.heap.size, 2, none⟩ = some (.int .i64 0) := row_cell hr
      have f0 := row_free (i := 0) hr
      have f1 := row_free (i := 1) hr
      have f2 := row_free (i := 2) hr
      have HWW := hide hw
      clear hrow hr HL hw HW0
      go_wp2
      refine bodyPost_ret (v := hV ((hs ts 1 : Nat) : Int) ((hs ts 2 : Nat) : Int) ((hs ts 3 : Nat) : Int)) (results_cell_row rfl _ _ w.heap.size 29 #[.int .i64 ((hs ts 1 : Nat) : Int), .int .i64 ((hs ts 2 : Nat) : Int), .int .i64 ((hs ts 3 : Nat) : Int)] (0, 0) _ rfl (row_put3 (unhide HWW).r ((hs ts 1 : Nat) : Int) ((hs ts 2 : Nat) : Int) ((hs ts 3 : Nat) : Int)) Try.underlying29 rfl (by kernel_rfl)) rfl ⟨rfl, bl_set (bl_set (bl_set (unhide HWW).b (Nat.le_refl _)) (Nat.le_refl _)) (Nat.le_refl _)⟩
theorem hist11 (v : Value) (ts : List ByteArray) (w : World) (hv : strsC w v ts) (hn : ts.length ≤ 1048576) :
    Calls Try.prog 11 #[v] w fun e w' => outH w ts e w' := by
  have HVC : Hid (∀ W, Below w.heap.size w W → strsC W v ts) := hide fun W hW => ⟨hv.1.below hW, hv.2⟩
  have KD := hide (fun W (hW : strsV W v ts) => drops37 v ts W hW (by omega))
  have KH := hide (fun W (hW : strsC W v ts) => hist38 v ts W hW hn)
  obtain ⟨⟨A, cap, rfl, _⟩, _⟩ := hv
  have n0 : (0 : Int) ≤ (ts.length : Int) := by omega
  have n1 : (ts.length : Int) ≤ 1048576 := by omega
  by_cases h1 : 4096 < ts.length
  · have HC : Hid (drC ts = 2) := hide (by unfold drC; rw [if_pos h1])
    have HR : Hid (hsP ts 1 = 0 ∧ hsP ts 2 = 0 ∧ hsP ts 3 = 0) := hide ⟨by unfold hsP; rw [unhide HC]; rfl, by unfold hsP; rw [unhide HC]; rfl, by unfold hsP; rw [unhide HC]; rfl⟩
    have q : (4096 : Int) < (ts.length : Int) := by omega
    clear h1 hn HVC KD KH
    go_enter Try.func11, Try.ntmps11
    go_wp2
    refine bodyPost_ret (results_tmp_row (P := Try.prog) rfl _ _ w.heap.size _ _ _ _ _ rfl rfl (heap_at _ _ _ rfl) Try.underlying29 rfl (by kernel_rfl)) rfl ⟨?_, bl_al (Below.refl _ _)⟩
    rw [unhide HC, (unhide HR).1, (unhide HR).2.1, (unhide HR).2.2]
    rfl
  have q : (ts.length : Int) ≤ 4096 := by omega
  clear h1 hn n1
  go_enter Try.func11, Try.ntmps11
  go_wp2_with fail
  refine (unhide KD _ (unhide HVC _ (bl_al (Below.refl _ _))).1).mono ?_
  rintro e w' ⟨rfl, hw'⟩
  have hw2 := hw'.symm
  subst hw2
  clear KD
  by_cases h0 : drC ts = 0
  · have HD := hide h0
    have HP : Hid (hsP ts 1 = ((hs ts 1 : Nat) : Int) ∧ hsP ts 2 = ((hs ts 2 : Nat) : Int) ∧ hsP ts 3 = ((hs ts 3 : Nat) : Int)) := hide ⟨by unfold hsP; rw [if_pos h0], by unfold hsP; rw [if_pos h0], by unfold hsP; rw [if_pos h0]⟩
    rw [h0]
    have B1 : Hid (Below w.heap.size w (w.alloc (.cells #[.int .i64 0, .int .i64 0, .int .i64 0] 29)) ∧ (w.alloc (.cells #[.int .i64 0, .int .i64 0, .int .i64 0] 29)).heap[w.heap.size]? = some (.cells #[.int .i64 0, .int .i64 0, .int .i64 0] 29 (0, 0)) ∧ w.heap.size < (w.alloc (.cells #[.int .i64 0, .int .i64 0, .int .i64 0] 29)).heap.size) := hide ⟨bl_al (Below.refl _ _), heap_at _ _ _ rfl, by simp⟩
    clear h0 hw'
    generalize w.alloc (.cells #[.int .i64 0, .int .i64 0, .int .i64 0] 29) = w1 at *
    go_wp2_with fail
    refine (unhide KH _ (unhide HVC _ (unhide B1).1)).mono ?_
    rintro e w2 ⟨rfl, hb⟩
    have hr : w2.heap[w.heap.size]? = some (.cells #[.int .i64 0, .int .i64 0, .int .i64 0] 29 (0, 0)) := (hb.block _ (unhide B1).2.2).trans (unhide B1).2.1
    have HR := hide hr
    have B2 := hide (bl_st hb (unhide B1).1)
    have d0 : w2.cell? ⟨w.heap.size, 0, none⟩ = some (.int .i64 0) := row_cell hr
    have d1 : w2.cell? ⟨w.heap.size, 1, none⟩ = some (.int .i64 0) := row_cell hr
    have d2 : w2.cell? ⟨w.heap.size, 2, none⟩ = some (.int .i64 0) := row_cell hr
    have f0 := row_free (i := 0) hr
    have f1 := row_free (i := 1) hr
    have f2 := row_free (i := 2) hr
    clear hr hb KH HVC B1
    go_wp2
    refine bodyPost_ret (results_tmp_row (P := Try.prog) rfl _ _ w.heap.size 29 #[.int .i64 ((hs ts 1 : Nat) : Int), .int .i64 ((hs ts 2 : Nat) : Int), .int .i64 ((hs ts 3 : Nat) : Int)] (0, 0) _ _ rfl rfl (row_put3 (unhide HR) _ _ _) Try.underlying29 rfl (by kernel_rfl)) rfl ⟨?_, bl_set (bl_set (bl_set (unhide B2) (Nat.le_refl _)) (Nat.le_refl _)) (Nat.le_refl _)⟩
    rw [unhide HD, (unhide HP).1, (unhide HP).2.1, (unhide HP).2.2]
    rfl
  · have HR : Hid (hsP ts 1 = 0 ∧ hsP ts 2 = 0 ∧ hsP ts 3 = 0) := hide ⟨by unfold hsP; rw [if_neg h0], by unfold hsP; rw [if_neg h0], by unfold hsP; rw [if_neg h0]⟩
    generalize hd : drC ts = c at *
    clear KH HVC
    go_wp2
    refine bodyPost_ret (results_tmp_row (P := Try.prog) rfl _ _ w.heap.size _ _ _ _ _ rfl rfl (heap_at _ _ _ rfl) Try.underlying29 rfl (by kernel_rfl)) rfl ⟨?_, bl_al (Below.refl _ _)⟩
    rw [hd, (unhide HR).1, (unhide HR).2.1, (unhide HR).2.2]
    rfl
end Go.Proofs.Ytggiijlgdpkkfaa
