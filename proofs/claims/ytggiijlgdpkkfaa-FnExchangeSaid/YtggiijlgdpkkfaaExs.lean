/- ExchangeDrops, the specification's. -/
import Derived.Test.YtggiijlgdpkkfaaExi
import Derived.Test.YtggiijlgdpkkfaaHc
namespace Go.Proofs.Ytggiijlgdpkkfaa
open Go.RowKit Go.Maps
set_option maxHeartbeats 4000000
set_option maxRecDepth 20000
theorem no_later {ps : List Acs} {i : Nat} (h : ah ps i ≠ 0) : ∀ k, i < k → k < ps.length → mates ps i k = false := fun k hk hl => by
  cases hm : mates ps i k
  · rfl
  · rw [mates_iff] at hm
    have := ah_lt hk (by omega) hm.1
    omega
theorem no_mate {ps : List Acs} {i : Nat} (h1 : cA ps (dr ps i) = 1) : ∀ k, i < k → k < ps.length → mates ps i k = false := fun k hk hl => by
  cases hm : mates ps i k
  · rfl
  · rw [mates_iff] at hm
    have a := cA_lt (ps := ps) (s := k) (s' := ps.length) hl (Nat.le_refl _)
    rw [List.take_length, ← hm.1] at a
    have b := ah_lt hk (by omega) hm.1
    unfold ah at b
    rw [← hm.1] at b
    omega
theorem exch43 (v : Value) (ps : List Acs) (w : World) (hv : acsV w v ps) (hn : ps.length ≤ 1048576) :
    Calls Try.prog 43 #[v] w fun e w' => ∃ r, e = .returned r ∧ ownS w.heap.size w'.heap.size w' r (gL ps all2) ∧ Below w.heap.size w w' := by
  obtain ⟨A, cap, rfl, hc⟩ := hv
  have HC := hide hc
  clear hc
  have n0 : (0 : Int) ≤ (ps.length : Int) := by omega
  have n1 : (ps.length : Int) ≤ 1048576 := by omega
  have mk := make_strs ps.length (by omega) w
  have HW0 : Hid ((w.alloc (strO (List.replicate ps.length noS) [])).heap[w.heap.size]? = some (strO (gL ps (one 0)) []) ∧ Below w.heap.size w (w.alloc (strO (List.replicate ps.length noS) []))) := hide ⟨by rw [one_start]; exact heap_at _ _ _ rfl, bl_al (Below.refl _ _)⟩
  clear hn
  go_enter Try.func43, Try.ntmps43
  go_wp2
  clear mk
  go_loopw [4] (fun i wr => ∃ j : Nat, j ≤ ps.length ∧ i = .int .i64 j ∧ wr.heap[w.heap.size]? = some (strO (gL ps (one j)) []) ∧ Below w.heap.size w wr) (fun i _ => ps.length - (intOf i).toNat)
  case atStart => exact ⟨0, by omega, rfl, (unhide HW0).1, (unhide HW0).2⟩
  case round =>
    obtain ⟨i, hi, rfl, hrow, hbl⟩ := hrel
    by_cases hlt : i < ps.length
    · obtain ⟨b, off, hA, hbb, hcell⟩ := unhide HC (by omega)
      subst hA
      have q1 : (i : Int) < (ps.length : Int) := by omega
      have q0 : (0 : Int) ≤ (i : Int) := by omega
      have HPC : Hid (∀ k, k < ps.length → ∀ W, Below w.heap.size w W → ∀ n, (W.drewN n).cell? ⟨b, off + k * 2, none⟩ = some (.string (dr ps k)) ∧ (W.drewN n).cell? ⟨b, off + k * 2 + 1, none⟩ = some (.string (bd ps k))) := hide (fun k hk W hW n => ⟨((hcell k hk).below hbb hW).c0, ((hcell k hk).below hbb hW).c1⟩)
      have HI := hide hlt
      have HBB := hide hbb
      have HR := hide hrow
      have HB := hide hbl
      clear hcell hlt hi hrow hbl hbb HW0
      go_wp2
      go_loopw [5, 6] (fun f k w2 => ∃ m : Nat, m ≤ i ∧ k = .int .i64 m ∧ f = .bool (decide (cA (ps.take m) (dr ps i) = 0)) ∧ w2.heap[w.heap.size]? = some (strO (gL ps (one i)) []) ∧ Below w.heap.size w w2) (fun _ k _ => i - (intOf k).toNat)
      case atStart => exact ⟨0, by omega, rfl, rfl, unhide HR, unhide HB⟩
      case round =>
        obtain ⟨m, hm, rfl, rfl, hrow, hbl⟩ := hrel
        by_cases hlt : m < i
        · have r1 : (m : Int) < (i : Int) := by omega
          have r0 : (0 : Int) ≤ (m : Int) := by omega
          have r2 : (m : Int) < (ps.length : Int) := by omega
          have c0 := fun n => (unhide HPC m (by have := unhide HI; omega) wr hbl n).1
          have c1 := fun n => (unhide HPC i (unhide HI) wr hbl n).1
          have HT := hide (cA_take ps m (by have := unhide HI; omega) (dr ps i))
          have HM := hide hlt
          have HR2 := hide hrow
          have HB2 := hide hbl
          clear hlt hm hrow hbl HR HB
          generalize hda : dr ps m = x at *
          generalize hdb : dr ps i = d at *
          have HDB := hide hdb
          clear hda hdb
          generalize cA (ps.take m) d = c at *
          by_cases hc : c = 0
          · rw [decide_eq_true hc]
            have HCC := hide hc
            clear hc
            go_wp2
            go_quiet (fail)
            rw [beq_txt]
            have Z1 : Hid ((wr.drewN nq).heap[w.heap.size]? = some (strO (gL ps (one i)) []) ∧ Below w.heap.size w (wr.drewN nq)) := hide ⟨unhide HR2, below_drewN (unhide HB2) nq⟩
            clear c0 c1 HR2 HB2
            generalize wr.drewN nq = Z at *
            go_wp2
            go_roundw
            case rel => exact ⟨m + 1, unhide HM, by go_num, by rw [unhide HT]; rw [unhide HCC]; by_cases e : x = d <;> simp [e], (unhide Z1).1, (unhide Z1).2⟩
            case measure => have := unhide HM; simp [intOf]; omega
          · rw [decide_eq_false hc]
            have HCC := hide hc
            clear hc
            go_wp2
            go_quiet (fail)
            have Z1 : Hid ((wr.drewN nq).heap[w.heap.size]? = some (strO (gL ps (one i)) []) ∧ Below w.heap.size w (wr.drewN nq)) := hide ⟨unhide HR2, below_drewN (unhide HB2) nq⟩
            clear c0 c1 HR2 HB2
            generalize wr.drewN nq = Z at *
            go_wp2
            go_roundw
            case rel => exact ⟨m + 1, unhide HM, by go_num, by rw [unhide HT]; rw [decide_eq_false (by have := unhide HCC; omega)], (unhide Z1).1, (unhide Z1).2⟩
            case measure => have := unhide HM; simp [intOf]; omega
        · obtain rfl : m = i := by omega
          by_cases h0 : ah ps m = 0
          · have h0' : cA (ps.take m) (dr ps m) = 0 := h0
            rw [decide_eq_true h0']
            have HAH := hide h0
            have HR2 := hide hrow
            have HB2 := hide hbl
            have C1 : Hid (cA (ps.take (m + 1)) (dr ps m) = 1) := hide (by rw [cA_take ps m (unhide HI), if_pos rfl, h0'])
            clear h0 h0' hlt hm hrow hbl HR HB
            go_wp2
            go_loopw [7] (fun k w2 => ∃ t : Nat, m < t ∧ t ≤ ps.length ∧ k = .int .i64 t ∧ cA (ps.take t) (dr ps m) = 1 ∧ w2.heap[w.heap.size]? = some (strO (gL ps (one m)) []) ∧ Below w.heap.size w w2) (fun k _ => ps.length - (intOf k).toNat)
            case atStart => exact ⟨m + 1, by omega, unhide HI, by go_num, unhide C1, unhide HR2, unhide HB2⟩
            case round =>
              obtain ⟨t, hmt, ht, rfl, hct, hrow, hbl⟩ := hrel
              by_cases hlt : t < ps.length
              · have s1 : (t : Int) < (ps.length : Int) := by omega
                have s0 : (0 : Int) ≤ (t : Int) := by omega
                have c0 := fun n => (unhide HPC t hlt wr hbl n).1
                have c1 := fun n => (unhide HPC m (unhide HI) wr hbl n).1
                have HCT := hide hct
                have HT := hide (cA_take ps t hlt (dr ps m))
                have HTL := hide hlt
                have HMT := hide hmt
                have HR3 := hide hrow
                have HB3 := hide hbl
                clear hct hlt hmt ht hrow hbl HR2 HB2 C1
                generalize hda : dr ps t = x at *
                generalize hdb : dr ps m = d at *
                have HDA := hide hda
                have HDB := hide hdb
                clear hda hdb
                go_wp2
                go_quiet (fail)
                rw [beq_txt]
                have Z1 : Hid ((wr.drewN nq).heap[w.heap.size]? = some (strO (gL ps (one m)) []) ∧ Below w.heap.size w (wr.drewN nq)) := hide ⟨unhide HR3, below_drewN (unhide HB3) nq⟩
                clear c0 c1 HR3 HB3
                generalize wr.drewN nq = Z at *
                by_cases e : x = d
                · rw [decide_eq_true e]
                  have HG := hide (one_pair (unhide HTL) (unhide HMT) (mates_iff.2 ⟨by rw [unhide HDA, unhide HDB, e], .inl ⟨unhide HAH, by unfold ah; rw [unhide HDA, e]; exact unhide HCT⟩⟩))
                  obtain ⟨zr, zb⟩ := unhide Z1
                  have z0 : Z.cell? ⟨b, off + t * 2 + 1, none⟩ = some (.string (bd ps t)) := (unhide HPC t (unhide HTL) Z zb 0).2
                  have z1 : Z.cell? ⟨b, off + m * 2 + 1, none⟩ = some (.string (bd ps m)) := (unhide HPC m (unhide HI) Z zb 0).2
                  have LN := gL_len ps (one m)
                  have hbw : b ≠ w.heap.size := by have := unhide HBB; omega
                  generalize bd ps t = bt1 at *
                  generalize bd ps m = bm at *
                  have hm' := unhide HI
                  have ht' := unhide HTL
                  have o1 := cell_strO zr m (by omega)
                  have o2 := free_strO zr m
                  have o3 := set_strO zr m bt1 (by omega)
                  have o4 := cell_strO o3 t (by rw [List.length_set]; omega)
                  have o5 := free_strO o3 t
                  have o6 := set_strO o3 t bm (by rw [List.length_set]; omega)
                  have z2 : (Z.setCell ⟨w.heap.size, m, none⟩ (.string bt1)).cell? ⟨b, off + m * 2 + 1, none⟩ = some (.string bm) := (World.cell?_setCell_other (w := Z) (a := ⟨w.heap.size, m, none⟩) (b := ⟨b, off + m * 2 + 1, none⟩) (v := .string bt1) (by intro q; injection q with q2; exact hbw q2.symm)).trans z1
                  rw [unhide HG] at o6
                  have F6 := hide o6
                  have FB := hide (bl_set (i := t) (v := .string bm) (bl_set (i := m) (v := .string bt1) zb (Nat.le_refl _)) (Nat.le_refl _))
                  clear o3 o6 zr zb HG LN Z1 e hm' ht' HT
                  go_wp2
                  go_roundw
                  case rel => exact ⟨m + 1, unhide HI, by go_num, unhide F6, unhide FB⟩
                  case measure => have := unhide HI; simp [intOf]; omega
                · rw [decide_eq_false e]
                  have HT2 : Hid (cA (ps.take (t + 1)) d = 1) := hide (by rw [unhide HT, if_neg e, unhide HCT])
                  clear HT e
                  go_wp2
                  go_roundw
                  case rel => exact ⟨t + 1, by have := unhide HMT; omega, unhide HTL, by go_num, unhide HT2, (unhide Z1).1, (unhide Z1).2⟩
                  case measure => have := unhide HTL; simp [intOf]; omega
              · obtain rfl : t = ps.length := by omega
                rw [List.take_length] at hct
                have HG := hide (one_step (unhide HI) (no_mate hct))
                have HR3 := hide hrow
                have HB3 := hide hbl
                clear hct hlt hmt ht hrow hbl HR2 HB2 C1
                go_wp2
                go_roundw
                case rel => exact ⟨m + 1, unhide HI, by go_num, by rw [unhide HG]; exact unhide HR3, unhide HB3⟩
                case measure => have := unhide HI; simp [intOf]; omega
          · have h0' : ¬ cA (ps.take m) (dr ps m) = 0 := h0
            rw [decide_eq_false h0']
            have HG := hide (one_step (unhide HI) (no_later h0))
            have HR2 := hide hrow
            have HB2 := hide hbl
            clear h0 h0' hlt hm hrow hbl HR HB
            go_wp2
            go_roundw
            case rel => exact ⟨m + 1, unhide HI, by go_num, by rw [unhide HG]; exact unhide HR2, unhide HB2⟩
            case measure => have := unhide HI; simp [intOf]; omega
    · obtain rfl : i = ps.length := by omega
      rw [one_end] at hrow
      have HR := hide hrow
      have HB := hide hbl
      clear hlt hrow hbl HW0
      go_wp2
      go_ret
      exact ⟨_, rfl, .inr ⟨w.heap.size, ps.length, [], by rw [gL_len]; rfl, Nat.le_refl _, (Array.getElem?_eq_some_iff.1 (unhide HR)).1, unhide HR, by rw [gL_len]; exact Nat.le_refl _⟩, unhide HB⟩
theorem empty_ownS (W : World) (lo : Nat) (h : lo ≤ W.heap.size) : ownS lo (W.alloc (.cells #[] 9)).heap.size (W.alloc (.cells #[] 9)) (.slice (some ⟨W.heap.size, 0, none⟩) 0 0) [] :=
  .inr ⟨W.heap.size, 0, [], rfl, h, by simp, heap_at _ _ _ rfl, Nat.le_refl _⟩
theorem exch13 (v : Value) (ps : List Acs) (w : World) (hv : acsV w v ps) (hn : ps.length ≤ 1048576) :
    Calls Try.prog 13 #[v] w fun e w' => outE w ps e w' := by
  have KD := hide (acs42 v ps w hv (by omega))
  have KH := hide (exch43 v ps w hv hn)
  obtain ⟨A, cap, rfl, _⟩ := hv
  have n0 : (0 : Int) ≤ (ps.length : Int) := by omega
  have n1 : (ps.length : Int) ≤ 1048576 := by omega
  by_cases h1 : 4096 < ps.length
  · have HC : Hid (acC ps = 2) := hide (by unfold acC; rw [if_pos h1])
    have HR : Hid (exR ps = []) := hide (by unfold exR; rw [unhide HC]; rfl)
    have q : (4096 : Int) < (ps.length : Int) := by omega
    clear h1 hn KD KH
    go_enter Try.func13, Try.ntmps13
    go_wp2
    go_ret2
    exact ⟨_, by rw [unhide HC]; rfl, by rw [unhide HR]; exact empty_ownS _ _ (Nat.le_refl _), bl_al (Below.refl _ _)⟩
  have q : (ps.length : Int) ≤ 4096 := by omega
  clear h1 hn n1
  go_enter Try.func13, Try.ntmps13
  go_wp2_with fail
  refine (unhide KD).mono ?_
  rintro e w' ⟨rfl, hw'⟩
  have hw2 := hw'.symm
  subst hw2
  clear KD hw'
  by_cases h0 : acC ps = 0
  · have HD := hide h0
    have HR : Hid (exR ps = gL ps all2) := hide (by unfold exR; rw [if_pos h0])
    rw [h0]
    clear h0
    go_wp2_with fail
    refine (unhide KH).mono ?_
    rintro e w2 ⟨r, rfl, ho, hb⟩
    have HO := hide ho
    have B2 := hide hb
    clear KH ho hb
    go_wp2
    go_ret2
    exact ⟨r, by rw [unhide HD]; rfl, by rw [unhide HR]; exact unhide HO, unhide B2⟩
  · have HR : Hid (exR ps = []) := hide (by unfold exR; rw [if_neg h0])
    generalize hd : acC ps = c at *
    clear KH
    go_wp2
    go_ret2
    exact ⟨_, by rw [hd]; rfl, by rw [unhide HR]; exact empty_ownS _ _ (Nat.le_refl _), bl_al (Below.refl _ _)⟩
theorem exR_len (ps : List Acs) : (exR ps).length ≤ 4096 := by
  unfold exR
  split
  · rename_i h
    rw [gL_len]
    unfold acC at h
    split at h
    · omega
    · omega
  · simp
end Go.Proofs.Ytggiijlgdpkkfaa
