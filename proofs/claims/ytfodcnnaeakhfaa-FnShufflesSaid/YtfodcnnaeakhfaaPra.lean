/- Orders that choices lead to: the program. -/
import Derived.Test.YtfodcnnaeakhfaaClo
import Derived.Test.YtfodcnnaeakhfaaPm
namespace Go.Proofs.Ytfodcnnaeakhfaa
open Go.RowKit
set_option maxHeartbeats 4000000
set_option maxRecDepth 20000
theorem stand32 (n : Nat) (hn : n ≤ 4096) (w : World) : Calls Try.prog 32 #[.int .i64 (n : Int)] w fun e w' =>
    e = .returned (.slice (some ⟨w.heap.size, 0, none⟩) n n) ∧ w'.heap[w.heap.size]? = some (rowObj 3 .i64 (rg n) []) ∧ Below w.heap.size w w' := by
  have mk := make_ints n (by omega)
  have HN := hide (rg_len n)
  go_enter Try.func32, Try.ntmps32
  go_wp2
  clear mk
  go_loopw [9] (fun i wr => ∃ j : Nat, j ≤ n ∧ i = .int .i64 j ∧ wr.heap[w.heap.size]? = some (rowObj 3 .i64 (mixL (rg n) (List.replicate n 0) j) []) ∧ Below w.heap.size w wr) (fun i _ => n - (intOf i).toNat)
  case atStart => exact ⟨0, by omega, rfl, by rw [mixL_zero, heap_at _ _ _ rfl], (Below.refl _ _).alloc (Nat.le_refl _) _⟩
  case round =>
    obtain ⟨j, hj, rfl, ho, hbl⟩ := hrel
    by_cases hlt : j < n
    · have q1 : (j : Int) < (n : Int) := by omega
      have q0 : (0 : Int) ≤ (j : Int) := by omega
      have hl : (mixL (rg n) (List.replicate n 0) j).length = n := by rw [mixL_len _ _ _ (by simp [unhide HN])]; simp
      have p1 := cell_rowO ho j (by omega)
      have p2 := free_rowO ho j
      have p3 := set_rowO ho j ((rg n).getD j 0) (by omega)
      rw [mixL_succ _ _ _ (by simp [unhide HN]) (by simpa using hlt), rg_at n j hlt] at p3
      have fin : Hid ((wr.setCell ⟨w.heap.size, j, none⟩ (.int .i64 (j : Int))).heap[w.heap.size]? = some (rowObj 3 .i64 (mixL (rg n) (List.replicate n 0) (j + 1)) []) ∧ Below w.heap.size w (wr.setCell ⟨w.heap.size, j, none⟩ (.int .i64 (j : Int)))) := ⟨p3, bl_set hbl (Nat.le_refl _)⟩
      have HJ := hide hlt
      clear ho hbl hl hlt hj p3
      generalize (mixL (rg n) (List.replicate n 0) j).getD j 0 = m0 at *
      go_wp2
      go_roundw
      case rel => exact ⟨j + 1, unhide HJ, by go_num, (unhide fin).1, (unhide fin).2⟩
      case measure => have := unhide HJ; simp [intOf]; omega
    · obtain rfl : j = n := by omega
      have hm := mixL_all (rg j) (List.replicate j 0) (by simp [unhide HN])
      rw [List.length_replicate] at hm
      rw [hm] at ho
      have HO := hide ho
      have hbel := hide hbl
      clear ho hbl hm
      go_wp2
      go_ret
      exact ⟨rfl, unhide HO, unhide hbel⟩
theorem goF_drop {cs o : List Int} {j : Nat} (h : j < cs.length) : goF (cs.drop j) o = goF (cs.drop (j + 1)) (swp o (cs.length - j) (cs.getD j 0).toNat) := by
  rw [drop_at h, goF, List.length_drop]
  congr 2
  omega
theorem chB_drop {cs : List Int} {j : Nat} (h : j < cs.length) (hc : chB (cs.drop j) = true) : 0 ≤ cs.getD j 0 ∧ cs.getD j 0 ≤ ((cs.length - j : Nat) : Int) ∧ chB (cs.drop (j + 1)) = true := by
  rw [drop_at h] at hc
  obtain ⟨h0, h1, h2⟩ := chB_cons hc
  rw [List.length_drop] at h1
  exact ⟨h0, by omega, h2⟩
theorem order28 (v : Value) (cs : List Int) (w : World) (hv : intsV w v cs) (hl : cs.length ≤ 15) (hc : chB cs = true) : Calls Try.prog 28 #[v] w fun e w' =>
    e = .returned (.slice (some ⟨w.heap.size, 0, none⟩) (cs.length + 1) (cs.length + 1)) ∧ w'.heap[w.heap.size]? = some (rowObj 3 .i64 (pOf cs) []) ∧ Below w.heap.size w w' := by
  obtain ⟨A, cap, rfl, hcell⟩ := hv
  have HC := hide hcell
  have K := hide (stand32 (cs.length + 1) (by omega) w)
  have n0 : (0 : Int) ≤ (cs.length : Int) := by omega
  have n1 : (cs.length : Int) ≤ 15 := by omega
  have HL := hide hl
  have HCH := hide hc
  clear hcell hl hc
  go_enter Try.func28, Try.ntmps28
  go_wp2_with fail
  refine (unhide K).mono ?_
  rintro e w1 ⟨rfl, hr, hb⟩
  have HR := hide hr
  have HB := hide hb
  clear K hr hb
  go_wp2
  go_loopw [13] (fun i wr => ∃ (j : Nat) (o : List Int), j ≤ cs.length ∧ i = .int .i64 j ∧ o.length = cs.length + 1 ∧ chB (cs.drop j) = true ∧ goF (cs.drop j) o = pOf cs ∧ wr.heap[w.heap.size]? = some (rowObj 3 .i64 o []) ∧ Below w.heap.size w wr) (fun i _ => cs.length - (intOf i).toNat)
  case atStart => exact ⟨0, rg (cs.length + 1), by omega, rfl, rg_len _, unhide HCH, rfl, unhide HR, unhide HB⟩
  case round =>
    obtain ⟨j, o, hj, rfl, ho, hch, hgo, hrow, hbl⟩ := hrel
    by_cases hlt : j < cs.length
    · obtain ⟨b, off, hA, hbb, hcell⟩ := unhide HC (by omega)
      subst hA
      have q1 : (j : Int) < (cs.length : Int) := by omega
      have q0 : (0 : Int) ≤ (j : Int) := by omega
      obtain ⟨c0, c1, c2⟩ := chB_drop hlt hch
      rw [goF_drop hlt] at hgo
      have p0 : wr.cell? ⟨b, off + j, none⟩ = some (.int .i64 (cs.getD j 0)) := (cell_below hbl hbb).trans (hcell j hlt)
      obtain ⟨c, hcc⟩ : ∃ c : Nat, cs.getD j 0 = (c : Int) := ⟨(cs.getD j 0).toNat, by omega⟩
      rw [hcc] at p0 c1 hgo
      rw [Int.toNat_natCast] at hgo
      obtain ⟨m, hm⟩ : ∃ m, cs.length - j = m := ⟨_, rfl⟩
      rw [hm] at hgo c1
      have e1 : (cs.length : Int) - (j : Int) = (m : Int) := by omega
      have m0 : (m : Int) < ((cs.length + 1 : Nat) : Int) := by omega
      have c3 : (c : Int) < ((cs.length + 1 : Nat) : Int) := by omega
      have p1 := cell_rowO hrow m (by omega)
      have p2 := free_rowO hrow m
      have p3 := cell_rowO hrow c (by omega)
      have s1 := set_rowO hrow m (o.getD c 0) (by omega)
      have p4 := free_rowO s1 c
      have p5 := cell_rowO s1 c (by rw [List.length_set]; omega)
      have s2 := set_rowO s1 c (o.getD m 0) (by rw [List.length_set]; omega)
      have fin : Hid (((wr.setCell ⟨w.heap.size, m, none⟩ (.int .i64 (o.getD c 0))).setCell ⟨w.heap.size, c, none⟩ (.int .i64 (o.getD m 0))).heap[w.heap.size]? = some (rowObj 3 .i64 (swp o m c) []) ∧ Below w.heap.size w ((wr.setCell ⟨w.heap.size, m, none⟩ (.int .i64 (o.getD c 0))).setCell ⟨w.heap.size, c, none⟩ (.int .i64 (o.getD m 0)))) := ⟨s2, bl_set (bl_set hbl (Nat.le_refl _)) (Nat.le_refl _)⟩
      have HJ := hide hlt
      have HO := hide (show (swp o m c).length = cs.length + 1 by rw [swp_len]; exact ho)
      have HG := hide hgo
      have HC2 := hide c2
      clear hcell hlt hj hrow hbl hch hgo s1 s2 c2 ho hcc hbb c0 hm
      generalize swp o m c = o2 at *
      generalize ((o.set m (o.getD c 0)).getD c 0) = z at *
      generalize o.getD c 0 = x at *
      generalize o.getD m 0 = y at *
      go_wp2
      go_region
      all_goals
        go_wp2
        go_roundw
        case rel => exact ⟨j + 1, o2, unhide HJ, by go_num, unhide HO, unhide HC2, unhide HG, (unhide fin).1, bl_dr (unhide fin).2⟩
        case measure => have := unhide HJ; simp [intOf]; omega
    · obtain rfl : j = cs.length := by omega
      rw [List.drop_length, goF] at hgo
      subst hgo
      have HO := hide hrow
      have hbel := hide hbl
      clear hrow hbl hlt
      go_wp2
      go_ret
      exact ⟨rfl, unhide HO, unhide hbel⟩
def chC (cs : List Int) : Int := if 4096 < cs.length then 2 else if cs.length ≤ 15 ∧ chB cs = true then 0 else 4
theorem chC_cases (cs : List Int) : (4096 < cs.length ∧ chC cs = 2) ∨ (15 < cs.length ∧ cs.length ≤ 4096 ∧ chC cs = 4) ∨ (cs.length ≤ 15 ∧ chB cs = false ∧ chC cs = 4) ∨ (cs.length ≤ 15 ∧ chB cs = true ∧ chC cs = 0) := by
  unfold chC
  by_cases h1 : 4096 < cs.length
  · exact .inl ⟨h1, by rw [if_pos h1]⟩
  · by_cases h2 : 15 < cs.length
    · exact .inr (.inl ⟨h2, by omega, by rw [if_neg h1, if_neg (by omega)]⟩)
    · cases hb : chB cs
      · exact .inr (.inr (.inl ⟨by omega, rfl, by rw [if_neg h1, if_neg (by simp)]⟩))
      · exact .inr (.inr (.inr ⟨by omega, rfl, by rw [if_neg h1, if_pos ⟨by omega, rfl⟩]⟩))
theorem code27 (v : Value) (cs : List Int) (w : World) (hv : intsV w v cs) (hn : cs.length ≤ 1048576) : Calls Try.prog 27 #[v] w fun e w' => e = .returned (.int .i64 (chC cs)) ∧ w' = w := by
  have K1 := hide (long17 v cs w hv (by omega))
  obtain ⟨A, cap, rfl, hcell⟩ := hv
  have HC := hide hcell
  have n0 : (0 : Int) ≤ (cs.length : Int) := by omega
  have n1 : (cs.length : Int) ≤ 1048576 := by omega
  clear hcell
  rcases chC_cases cs with ⟨h1, hg⟩ | ⟨h1, h2, hg⟩ | h
  · have HE := hide hg
    rw [decide_eq_true h1] at K1
    clear h1 hn hg HC
    go_enter Try.func27, Try.ntmps27
    go_wp2_with fail
    refine (unhide K1).mono ?_
    rintro e w' ⟨rfl, hw'⟩
    have hw2 := hw'.symm
    subst hw2
    clear K1
    go_wp2
    go_ret
    exact ⟨by rw [unhide HE]; rfl, rfl⟩
  · have HE := hide hg
    have q : (16 : Int) ≤ (cs.length : Int) := by omega
    rw [decide_eq_false (by omega)] at K1
    clear h1 h2 hn hg HC
    go_enter Try.func27, Try.ntmps27
    go_wp2_with fail
    refine (unhide K1).mono ?_
    rintro e w' ⟨rfl, hw'⟩
    have hw2 := hw'.symm
    subst hw2
    clear K1
    go_wp2
    go_ret
    exact ⟨by rw [unhide HE]; rfl, rfl⟩
  have h1 : cs.length ≤ 15 ∧ chC cs = if chB cs = true then 0 else 4 := by
    rcases h with ⟨h1, h2, h3⟩ | ⟨h1, h2, h3⟩
    · exact ⟨h1, by rw [h3, if_neg (by rw [h2]; simp)]⟩
    · exact ⟨h1, by rw [h3, if_pos h2]⟩
  have HE := hide h1.2
  have q : (cs.length : Int) < 16 := by omega
  rw [decide_eq_false (by omega)] at K1
  clear h h1 hn n1
  go_enter Try.func27, Try.ntmps27
  go_wp2_with fail
  refine (unhide K1).mono ?_
  rintro e w' ⟨rfl, hw'⟩
  have hw2 := hw'.symm
  subst hw2
  clear K1
  go_wp2
  go_loopw [12] (fun i wr => ∃ (j : Nat), j ≤ cs.length ∧ i = .int .i64 j ∧ chB (cs.drop j) = chB cs ∧ wr = w) (fun i _ => cs.length - (intOf i).toNat)
  case atStart => exact ⟨0, by omega, rfl, rfl, rfl⟩
  case round =>
    obtain ⟨j, hj, rfl, hch, rfl⟩ := hrel
    by_cases hlt : j < cs.length
    · obtain ⟨b, off, hA, hbb, hcell⟩ := unhide HC (by omega)
      subst hA
      have q1 : (j : Int) < (cs.length : Int) := by omega
      have q0 : (0 : Int) ≤ (j : Int) := by omega
      have p0 := hcell j hlt
      rw [drop_at hlt, chB, List.length_drop] at hch
      have e0 : ((cs.length - (j + 1) : Nat) : Int) + 1 = (cs.length : Int) - (j : Int) := by omega
      rw [e0] at hch
      have HJ := hide hlt
      clear hcell hlt hj hbb e0
      generalize cs.getD j 0 = c at *
      by_cases hc0 : c < 0
      · have HF : Hid (chB cs = false) := hide (by rw [← hch, decide_eq_false (by omega)]; rfl)
        clear hch
        go_wp2
        go_ret
        exact ⟨by rw [unhide HE, unhide HF]; rfl, rfl⟩
      by_cases hc1 : (cs.length : Int) - (j : Int) < c
      · have HF : Hid (chB cs = false) := hide (by rw [← hch, decide_eq_false (show ¬ c ≤ _ by omega), Bool.and_false]; rfl)
        have hc2 : 0 ≤ c := by omega
        clear hch hc0
        go_wp2
        go_ret
        exact ⟨by rw [unhide HE, unhide HF]; rfl, rfl⟩
      · have HF : Hid (chB (cs.drop (j + 1)) = chB cs) := hide (by rw [← hch, decide_eq_true (show 0 ≤ c by omega), decide_eq_true (show c ≤ _ by omega)]; rfl)
        have hc2 : 0 ≤ c := by omega
        have hc3 : c ≤ (cs.length : Int) - (j : Int) := by omega
        clear hch hc0 hc1
        go_wp2
        go_roundw
        case rel => exact ⟨j + 1, unhide HJ, by go_num, unhide HF, by first | rfl | trivial⟩
        case measure => have := unhide HJ; simp [intOf]; omega
    · obtain rfl : j = cs.length := by omega
      rw [List.drop_length, chB] at hch
      have HF := hide hch.symm
      clear hch hlt
      go_wp2
      go_ret
      exact ⟨by rw [unhide HE, unhide HF]; rfl, rfl⟩
def pmR (cs : List Int) : List Int × Int := if chC cs = 0 then (pOf cs, 0) else ([], chC cs)
theorem pmR_code {cs : List Int} {c : Int} (h : chC cs = c) (hc : c ≠ 0) : pmR cs = ([], c) := by unfold pmR; rw [h, if_neg hc]
theorem pmR_ok {cs : List Int} (h : chC cs = 0) : pmR cs = (pOf cs, 0) := by unfold pmR; rw [if_pos h]
/-- an answer of ints and a code -/
def outI (W : World) (xs : List Int) (c : Int) (e : Ending) (w' : World) : Prop := ∃ r, e = .returned (.tuple #[r, .int .i64 c]) ∧ ownI W.heap.size w'.heap.size w' r xs ∧ Below W.heap.size W w'
theorem own_row {W w' : World} {n : Nat} {xs : List Int} {rest : List Value} (h : w'.heap[W.heap.size]? = some (rowObj 3 .i64 xs rest)) (hl : xs.length = n) (c : Nat) (hc : n ≤ c) : ownI W.heap.size w'.heap.size w' (.slice (some ⟨W.heap.size, 0, none⟩) n c) xs := by
  subst hl
  exact .inr ⟨W.heap.size, c, rest, rfl, Nat.le_refl _, (Array.getElem?_eq_some_iff.1 h).1, h, hc⟩
theorem perm10 (v : Value) (cs : List Int) (w : World) (hv : intsV w v cs) (hn : cs.length ≤ 1048576) : Calls Try.prog 10 #[v] w fun e w' => outI w (pmR cs).1 (pmR cs).2 e w' := by
  have K1 := hide (code27 v cs w hv hn)
  have K2 := hide (fun h1 h2 => order28 v cs w hv h1 h2)
  obtain ⟨A, cap, rfl, _⟩ := hv
  rcases chC_cases cs with ⟨_, hg⟩ | ⟨_, _, hg⟩ | ⟨_, _, hg⟩ | ⟨hl, hb, hg⟩
  iterate 3
    · have HE := hide (pmR_code hg (by omega))
      rw [hg] at K1
      clear hg hn K2
      rw [unhide HE]
      go_enter Try.func10, Try.ntmps10
      go_wp2_with fail
      refine (unhide K1).mono ?_
      rintro e w' ⟨rfl, hw'⟩
      have hw2 := hw'.symm
      subst hw2
      clear K1
      go_wp2
      go_ret2
      exact ⟨_, rfl, .inl ⟨rfl, rfl⟩, Below.refl _ _⟩
  · have HE := hide (pmR_ok hg)
    rw [hg] at K1
    have K3 := hide (unhide K2 hl hb)
    clear hg hn K2 hl hb
    rw [unhide HE]
    go_enter Try.func10, Try.ntmps10
    go_wp2_with fail
    refine (unhide K1).mono ?_
    rintro e w' ⟨rfl, hw'⟩
    have hw2 := hw'.symm
    subst hw2
    clear K1
    go_wp2_with fail
    refine (unhide K3).mono ?_
    rintro e w1 ⟨rfl, hr, hb⟩
    have HR := hide hr
    have HB := hide hb
    clear K3 hr hb
    go_wp2
    go_ret2
    exact ⟨_, rfl, own_row (unhide HR) (pOf_len _) _ (Nat.le_refl _), unhide HB⟩
end Go.Proofs.Ytfodcnnaeakhfaa
