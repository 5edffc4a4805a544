/- Orders that choices lead to: the specification. -/
import Derived.Test.YtfodcnnaeakhfaaPra
import Derived.Deep.AppendLies
namespace Go.Proofs.Ytfodcnnaeakhfaa
open Go.RowKit
set_option maxHeartbeats 4000000
set_option maxRecDepth 20000
theorem info3b : (Try.prog.info? 3).map (fun i => (i.zero, i.size, i.bytes)) = some (some (.int .i64 0), 1, 8) := by kernel_rfl
/-- an own row of ints, as own ints -/
theorem rowI {w : World} {base n : Nat} {v : Value} {xs : List Int} (h : w.ownsRow base 3 1 v n (xs.map (Value.int .i64))) (hx : xs.length = n) : ownI base w.heap.size w v xs := by
  rcases h.2 with ⟨rfl, h0⟩ | ⟨g, cap, cur, rfl, hb, hg, h1, _, _, ht⟩
  · exact .inl ⟨rfl, List.length_eq_zero_iff.1 (by omega)⟩
  · subst hx
    refine .inr ⟨g, cap, cur.toList.drop (xs.length * 1), rfl, hb, (Array.getElem?_eq_some_iff.1 hg).1, ?_, h1⟩
    rw [hg]
    unfold rowObj
    congr 2
    show cur = (xs.map (Value.int .i64) ++ _).toArray
    rw [← ht, List.take_append_drop]
theorem choices29 (v : Value) (cs : List Int) (w : World) (hv : intsV w v cs) (hn : cs.length ≤ 4096) : Calls Try.prog 29 #[v] w fun e w' => e = .returned (.bool (decide (cs.length ≤ 15) && chB cs)) ∧ w' = w := by
  obtain ⟨A, cap, rfl, hcell⟩ := hv
  have HC := hide hcell
  have n0 : (0 : Int) ≤ (cs.length : Int) := by omega
  have n1 : (cs.length : Int) ≤ 4096 := by omega
  clear hcell
  by_cases h : 15 < cs.length
  · rw [decide_eq_false (by omega), Bool.false_and]
    have q : (15 : Int) < (cs.length : Int) := by omega
    clear h hn HC
    go_enter Try.func29, Try.ntmps29
    go_wp2
    go_ret
    exact ⟨rfl, rfl⟩
  rw [decide_eq_true (by omega), Bool.true_and]
  have q : (cs.length : Int) ≤ 15 := by omega
  clear h hn n1
  go_enter Try.func29, Try.ntmps29
  go_wp2
  go_loopw [3] (fun i wr => ∃ (j : Nat), j ≤ cs.length ∧ i = .int .i64 j ∧ chB (cs.drop j) = chB cs ∧ wr = w) (fun i _ => cs.length - (intOf i).toNat)
  case atStart => exact ⟨0, by omega, rfl, rfl, rfl⟩
  case round =>
    obtain ⟨j, hj, rfl, hch, rfl⟩ := hrel
    by_cases hlt : j < cs.length
    · obtain ⟨b, off, hA, hbb, hcell⟩ := unhide HC (by omega)
      subst hA
      have q1 : (j : Int) < (cs.length : Int) := by omega
      have q0 : (0 : Int) ≤ (j : Int) := by omega
      have p0 := hcell j hlt
      rw [drop_at hlt, chB, List.length_drop] at hch
      have e0 : ((cs.length - (j + 1) : Nat) : Int) + 1 = (cs.length : Int) - (j : Int) := by omega
      rw [e0] at hch
      have HJ := hide hlt
      clear hcell hlt hj hbb e0
      generalize cs.getD j 0 = c at *
      have K := hide (fun W => in19 c 0 ((cs.length : Int) - (j : Int)) W)
      generalize (decide (0 ≤ c) && decide (c ≤ (cs.length : Int) - (j : Int))) = bb at *
      cases bb
      · have HF : Hid (chB cs = false) := hide (by rw [← hch]; rfl)
        clear hch
        go_wp2_with fail
        refine (unhide K _).mono ?_
        rintro e w' ⟨rfl, hw'⟩
        have hw2 := hw'.symm
        subst hw2
        clear K
        go_wp2
        go_ret
        exact ⟨ret_bool (unhide HF).symm, rfl⟩
      · have HF : Hid (chB (cs.drop (j + 1)) = chB cs) := hide (by rw [← hch]; rfl)
        clear hch
        go_wp2_with fail
        refine (unhide K _).mono ?_
        rintro e w' ⟨rfl, hw'⟩
        have hw2 := hw'.symm
        subst hw2
        clear K
        go_wp2
        go_roundw
        case rel => exact ⟨j + 1, unhide HJ, by go_num, unhide HF, by first | rfl | trivial⟩
        case measure => have := unhide HJ; simp [intOf]; omega
    · obtain rfl : j = cs.length := by omega
      rw [List.drop_length, chB] at hch
      have HF := hide hch.symm
      clear hch hlt
      go_wp2
      go_ret
      exact ⟨ret_bool (unhide HF).symm, rfl⟩
theorem rg_map (n : Nat) : (rg (n + 1)).map (Value.int .i64) = (rg n).map (Value.int .i64) ++ [.int .i64 (n : Int)] := by rw [rg_succ, List.map_append]; rfl
theorem perm30 (v : Value) (cs : List Int) (w : World) (hv : intsV w v cs) (hl : cs.length ≤ 15) (hc : chB cs = true) : Calls Try.prog 30 #[v] w fun e w' =>
    ∃ r, e = .returned r ∧ ownI w.heap.size w'.heap.size w' r (pOf cs) ∧ Below w.heap.size w w' := by
  obtain ⟨i0, hi0, hz0, hz1, hz2⟩ := info_parts info3b
  obtain ⟨A, cap, rfl, hcell⟩ := hv
  have HC := hide hcell
  have n0 : (0 : Int) ≤ (cs.length : Int) := by omega
  have n1 : (cs.length : Int) ≤ 15 := by omega
  have HL := hide hl
  have HCH := hide hc
  clear hcell hl hc
  go_enter Try.func30, Try.ntmps30
  go_wp2
  go_loopw [4, 5] (fun o c wr => ∃ (j : Nat), j ≤ cs.length + 1 ∧ c = .int .i64 j ∧ wr.ownsRow w.heap.size 3 1 o j ((rg j).map (Value.int .i64)) ∧ Below w.heap.size w wr) (fun _ c _ => cs.length + 1 - (intOf c).toNat)
  case atStart => exact ⟨0, by omega, rfl, World.ownsRow_made w #[] 0 (Nat.le_refl _) (Nat.zero_le _) rfl, bl_al (Below.refl _ _)⟩
  case round =>
    obtain ⟨j, hj, rfl, hown, hbl⟩ := hrel
    by_cases hlt : j < cs.length + 1
    · have q1 : (j : Int) < (cs.length : Int) + 1 := by omega
      have q0 : (0 : Int) ≤ (j : Int) := by omega
      have HJ := hide hlt
      have HLL := unhide HL
      have jb : j ≤ 16 := by omega
      clear hlt hj
      go_wp2_with (at_builtin; refine wpList_append_lies _ rfl _ _ 23 rfl w.heap.size 3 i0 (.int .i64 0) 1 8 Try.underlying23 hi0 hz0 hz1 hz2 rfl (by omega) u4 j ((rg j).map (Value.int .i64)) rfl (hown.alloc _)
                    ⟨wr.heap.size, 0, none⟩ 1 1 [.int .i64 (j : Int)] rfl rfl (World.news_of_block (cs := #[.int .i64 (j : Int)]) (t := 3) (fr := (0, 0)) (heap_alloc_new wr _)) (by simp [Value.oneCell'])
                    (by omega) (by unfold maxLen; omega) (by omega) (by have := hbl.size; simp; omega) (wr.heap.size + 1) (by simp) ?_; intro gg cp w3 hown3 hgrow3 hat hltg)
      have HB3 := hide ((bl_al hbl).grown hgrow3 (bl_al hbl).size fun k hk => (hown.lt k hk).1)
      have HO3 : Hid (w3.ownsRow w.heap.size 3 1 (.slice (some ⟨gg, 0, none⟩) (j + 1) cp) (j + 1) ((rg (j + 1)).map (Value.int .i64))) := hide (by rw [rg_map]; exact hown3)
      clear hown hbl hown3 hgrow3 hat hltg
      go_wp2
      go_roundw
      case rel => exact ⟨j + 1, unhide HJ, by go_num, unhide HO3, unhide HB3⟩
      case measure => have := unhide HJ; simp [intOf]; omega
    · obtain rfl : j = cs.length + 1 := by omega
      have hrow := rowI hown (rg_len _)
      have HLL := unhide HL
      obtain ⟨_, h0⟩ | ⟨g, cp, rest, rfl, hg1, hg2, hrw, hcp⟩ := hrow
      · have := congrArg List.length h0
        rw [rg_len] at this
        simp at this
      rw [rg_len] at hcp
      have HR := hide hrw
      have HB := hide hbl
      have HG := hide hg1
      have HCP := hide hcp
      clear hown hbl hlt hj hrw hg1 hg2 hcp
      rw [rg_len]
      go_wp2
      go_loopw [6] (fun i wy => ∃ (j : Nat) (o : List Int), j ≤ cs.length ∧ i = .int .i64 ((cs.length - j : Nat) : Int) ∧ o.length = cs.length + 1 ∧ chB (cs.drop j) = true ∧ goF (cs.drop j) o = pOf cs ∧ wy.heap[g]? = some (rowObj 3 .i64 o rest) ∧ Below w.heap.size w wy) (fun i _ => (intOf i).toNat)
      case atStart => exact ⟨0, rg (cs.length + 1), by omega, by go_num, rg_len _, unhide HCH, rfl, unhide HR, unhide HB⟩
      case round =>
        obtain ⟨j, o, hj, rfl, ho, hch, hgo, hrow, hbl⟩ := hrel
        clear HR HB
        by_cases hlt : j < cs.length
        · obtain ⟨b, off, hA, hbb, hcell⟩ := unhide HC (by omega)
          subst hA
          obtain ⟨c0, c1, c2⟩ := chB_drop hlt hch
          rw [goF_drop hlt] at hgo
          have p0 : wr.cell? ⟨b, off + j, none⟩ = some (.int .i64 (cs.getD j 0)) := (cell_below hbl hbb).trans (hcell j hlt)
          obtain ⟨c, hcc⟩ : ∃ c : Nat, cs.getD j 0 = (c : Int) := ⟨(cs.getD j 0).toNat, by omega⟩
          rw [hcc] at p0 c1 hgo
          rw [Int.toNat_natCast] at hgo
          obtain ⟨m, hm⟩ : ∃ m, cs.length - j = m := ⟨_, rfl⟩
          rw [hm] at hgo c1 ⊢
          have e1 : (cs.length : Int) - (m : Int) = (j : Int) := by omega
          have e2 : (m : Int) ≤ (cs.length : Int) := by omega
          have e3 : (0 : Int) < (m : Int) := by omega
          have q0 : (0 : Int) ≤ (j : Int) := by omega
          have q1 : (j : Int) < (cs.length : Int) := by omega
          have m0 : (m : Int) < ((cs.length + 1 : Nat) : Int) := by omega
          have c3 : (c : Int) < ((cs.length + 1 : Nat) : Int) := by omega
          have p1 := cell_rowO hrow m (by omega)
          have p2 := free_rowO hrow m
          have p3 := cell_rowO hrow c (by omega)
          have s1 := set_rowO hrow m (o.getD c 0) (by omega)
          have p4 := free_rowO s1 c
          have p5 := cell_rowO s1 c (by rw [List.length_set]; omega)
          have s2 := set_rowO s1 c (o.getD m 0) (by rw [List.length_set]; omega)
          have fin : Hid (((wr.setCell ⟨g, m, none⟩ (.int .i64 (o.getD c 0))).setCell ⟨g, c, none⟩ (.int .i64 (o.getD m 0))).heap[g]? = some (rowObj 3 .i64 (swp o m c) rest) ∧ Below w.heap.size w ((wr.setCell ⟨g, m, none⟩ (.int .i64 (o.getD c 0))).setCell ⟨g, c, none⟩ (.int .i64 (o.getD m 0)))) := ⟨s2, bl_set (bl_set hbl (unhide HG)) (unhide HG)⟩
          have HJ := hide hlt
          have HM := hide hm
          have HO := hide (show (swp o m c).length = cs.length + 1 by rw [swp_len]; exact ho)
          have HG2 := hide hgo
          have HC2 := hide c2
          clear hcell hlt hj hrow hbl hch hgo s1 s2 c2 ho hcc hbb c0 hm
          generalize swp o m c = o2 at *
          generalize ((o.set m (o.getD c 0)).getD c 0) = z at *
          generalize o.getD c 0 = x at *
          generalize o.getD m 0 = y at *
          go_wp2
          go_roundw
          case rel => exact ⟨j + 1, o2, unhide HJ, by have := unhide HM; go_num, unhide HO, unhide HC2, unhide HG2, (unhide fin).1, (unhide fin).2⟩
          case measure => have := unhide HJ; simp [intOf]; omega
        · obtain rfl : j = cs.length := by omega
          rw [List.drop_length, goF] at hgo
          subst hgo
          have HO := hide hrow
          have hbel := hide hbl
          clear hrow hbl hlt
          rw [Nat.sub_self]
          go_wp2
          go_ret
          exact ⟨_, rfl, .inr ⟨g, cp, rest, by rw [pOf_len]; rfl, unhide HG, (Array.getElem?_eq_some_iff.1 (unhide HO)).1, unhide HO, by rw [pOf_len]; exact unhide HCP⟩, unhide hbel⟩
theorem empty_own (w : World) : ownI w.heap.size (w.alloc (.cells #[] 3 (0, 0))).heap.size (w.alloc (.cells #[] 3 (0, 0))) (.slice (some ⟨w.heap.size, 0, none⟩) 0 0) [] :=
  .inr ⟨w.heap.size, 0, [], rfl, Nat.le_refl _, by simp, heap_alloc_new w _, Nat.le_refl _⟩
theorem perm11 (v : Value) (cs : List Int) (w : World) (hv : intsV w v cs) (hn : cs.length ≤ 1048576) : Calls Try.prog 11 #[v] w fun e w' => outI w (pmR cs).1 (pmR cs).2 e w' := by
  have K1 := hide (fun h => choices29 v cs w hv h)
  have K2 := hide (fun h1 h2 => perm30 v cs w hv h1 h2)
  obtain ⟨A, cap, rfl, _⟩ := hv
  have n0 : (0 : Int) ≤ (cs.length : Int) := by omega
  have n1 : (cs.length : Int) ≤ 1048576 := by omega
  rcases chC_cases cs with ⟨h1, hg⟩ | h
  · have HE := hide (pmR_code hg (by omega))
    have q : (4096 : Int) < (cs.length : Int) := by omega
    clear hg hn K1 K2 h1
    rw [unhide HE]
    go_enter Try.func11, Try.ntmps11
    go_wp2
    go_ret2
    exact ⟨_, rfl, empty_own w, bl_al (Below.refl _ _)⟩
  have h4 : cs.length ≤ 4096 := by omega
  have q : (cs.length : Int) ≤ 4096 := by omega
  have K3 := hide (unhide K1 h4)
  clear K1 h4
  have hcase : ((decide (cs.length ≤ 15) && chB cs) = false ∧ chC cs = 4) ∨ (cs.length ≤ 15 ∧ chB cs = true ∧ (decide (cs.length ≤ 15) && chB cs) = true ∧ chC cs = 0) := by
    rcases h with ⟨h1, _, hg⟩ | ⟨_, h1, hg⟩ | ⟨h1, h2, hg⟩
    · exact .inl ⟨by rw [decide_eq_false (by omega)]; rfl, hg⟩
    · exact .inl ⟨by rw [h1, Bool.and_false], hg⟩
    · exact .inr ⟨h1, h2, by rw [decide_eq_true h1, h2]; rfl, hg⟩
  clear h
  rcases hcase with ⟨hb, hg⟩ | ⟨hl, hb, hbb, hg⟩
  · have HE := hide (pmR_code hg (by omega))
    rw [hb] at K3
    clear hg hn hb K2
    rw [unhide HE]
    go_enter Try.func11, Try.ntmps11
    go_wp2_with fail
    refine (unhide K3).mono ?_
    rintro e w' ⟨rfl, hw'⟩
    have hw2 := hw'.symm
    subst hw2
    clear K3
    go_wp2
    go_ret2
    exact ⟨_, rfl, empty_own w, bl_al (Below.refl _ _)⟩
  · have HE := hide (pmR_ok hg)
    rw [hbb] at K3
    have K4 := hide (unhide K2 hl hb)
    clear hg hn K2 hl hb hbb
    rw [unhide HE]
    go_enter Try.func11, Try.ntmps11
    go_wp2_with fail
    refine (unhide K3).mono ?_
    rintro e w' ⟨rfl, hw'⟩
    have hw2 := hw'.symm
    subst hw2
    clear K3
    go_wp2_with fail
    refine (unhide K4).mono ?_
    rintro e w1 ⟨r, rfl, ho, hb⟩
    have HO := hide ho
    have HB := hide hb
    clear K4 ho hb
    go_wp2
    go_ret2
    exact ⟨_, rfl, unhide HO, unhide HB⟩
end Go.Proofs.Ytfodcnnaeakhfaa
