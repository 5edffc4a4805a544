/- ChoicesOf, the specification, and the law of it, walked. -/
import Derived.Test.YtfodcnnaeakhfaaCho
import Derived.Deep.AppendLies
namespace Go.Proofs.Ytfodcnnaeakhfaa
open Go.RowKit
set_option maxHeartbeats 4000000
set_option maxRecDepth 20000
theorem choices23 (v : Value) (ps : List Int) (w : World) (hv : intsV w v ps) (hn : ps.length ≤ 1048576) : Calls Try.prog 23 #[v] w fun e w' => outI w (chR ps).1 (chR ps).2 e w' := by
  obtain ⟨i0, hi0, hz0, hz1, hz2⟩ := info_parts info3b
  have K1 := hide (fun h => permOK40 v ps w hv h)
  have HV := hide hv
  obtain ⟨A, cap, rfl, _⟩ := hv
  have n0 : (0 : Int) ≤ (ps.length : Int) := by omega
  have n1 : (ps.length : Int) ≤ 1048576 := by omega
  rcases pmC_ok (ps := ps) with ⟨hg, hp⟩ | ⟨_, ⟨hg, h1⟩ | ⟨hg, h1, hp⟩⟩
  rotate_left
  · rw [chR_code hg (by omega)]
    have q : (4096 : Int) < (ps.length : Int) := by omega
    clear hg hn K1 h1 HV
    go_enter Try.func23, Try.ntmps23
    go_wp2
    go_ret2
    exact ⟨_, rfl, empty_own w, bl_al (Below.refl _ _)⟩
  · rw [chR_code hg (by omega)]
    have K2 := hide (unhide K1 h1)
    rw [hp] at K2
    have q : (ps.length : Int) ≤ 4096 := by omega
    clear hg hn K1 h1 HV hp
    go_enter Try.func23, Try.ntmps23
    go_wp2_with fail
    refine (unhide K2).mono ?_
    rintro e w1 ⟨rfl, hb⟩
    have HB1 := hide hb
    clear K2 hb
    go_wp2
    go_ret2
    exact ⟨_, rfl, (empty_own w1).wide (unhide HB1).size (Nat.le_refl _), bl_al (unhide HB1)⟩
  rw [chR_ok hg]
  obtain ⟨hi, h16, h1⟩ := pOK_in hp
  have K2 := hide (unhide K1 (by omega))
  rw [hp] at K2
  have HI := hide hi
  have q : (ps.length : Int) ≤ 16 := by omega
  have q' : (1 : Int) ≤ (ps.length : Int) := by omega
  clear hg hn hp hi n1 K1
  go_enter Try.func23, Try.ntmps23
  go_wp2_with fail
  refine (unhide K2).mono ?_
  rintro e w1 ⟨rfl, hb⟩
  have V1 := (unhide HV).below hb
  have HB1 := hide hb
  obtain ⟨A', cap', he, hcell⟩ := V1
  simp only [Value.slice.injEq] at he
  obtain ⟨rfl, _, rfl⟩ := he
  have HC := hide hcell
  clear K2 hb hcell HV
  go_wp2
  go_loopw [4, 5] (fun o c wr => ∃ (j : Nat), j ≤ ps.length ∧ c = .int .i64 j ∧ wr.ownsRow w1.heap.size 3 1 o j ((rg j).map (Value.int .i64)) ∧ Below w1.heap.size w1 wr) (fun _ c _ => ps.length - (intOf c).toNat)
  case atStart => exact ⟨0, by omega, rfl, World.ownsRow_made w1 #[] 0 (Nat.le_refl _) (Nat.zero_le _) rfl, bl_al (Below.refl _ _)⟩
  case round =>
    obtain ⟨j, hj, rfl, hown, hbl⟩ := hrel
    by_cases hlt : j < ps.length
    · have q1 : (j : Int) < (ps.length : Int) := by omega
      have q0 : (0 : Int) ≤ (j : Int) := by omega
      have HJ := hide hlt
      have jb : j ≤ 16 := by omega
      clear hlt hj
      go_wp2_with (at_builtin; refine wpList_append_lies _ rfl _ _ 23 rfl (w1.heap.size) 3 i0 (.int .i64 0) 1 8 Try.underlying23 hi0 hz0 hz1 hz2 rfl (by omega) u4 j ((rg j).map (Value.int .i64)) rfl (hown.alloc _) ⟨wr.heap.size, 0, none⟩ 1 1 [.int .i64 (j : Int)] rfl rfl (World.news_of_block (cs := #[.int .i64 (j : Int)]) (t := 3) (fr := (0, 0)) (heap_alloc_new wr _)) (by simp [Value.oneCell']) (by omega) (by unfold maxLen; omega) (by omega) (by have := hbl.size; simp; omega) (wr.heap.size + 1) (by simp) ?_; intro gg cp w3 hown3 hgrow3 hat hltg)
      have HB3 := hide ((bl_al hbl).grown hgrow3 (bl_al hbl).size fun k hk => (hown.lt k hk).1)
      have HO3 : Hid (w3.ownsRow w1.heap.size 3 1 (.slice (some ⟨gg, 0, none⟩) (j + 1) cp) (j + 1) ((rg (j + 1)).map (Value.int .i64))) := hide (by rw [rg_map]; exact hown3)
      clear hown hbl hown3 hgrow3 hat hltg
      go_wp2
      go_roundw
      case rel => exact ⟨j + 1, unhide HJ, by go_num, unhide HO3, unhide HB3⟩
      case measure => have := unhide HJ; simp [intOf]; omega
    obtain rfl : j = ps.length := by omega
    have hrow := rowI hown (rg_len _)
    obtain ⟨_, h0⟩ | ⟨g, cpn, rest, rfl, hg1, hg2, hrw, hcp⟩ := hrow
    · have := congrArg List.length h0
      rw [rg_len, List.length_nil] at this
      omega
    rw [rg_len] at hcp
    obtain ⟨Bs, hBs⟩ : ∃ n, wr.heap.size = n := ⟨_, rfl⟩
    have HG : Hid (w1.heap.size ≤ g ∧ g < Bs) := hide (And.intro hg1 (by omega))
    have HR : Hid ((wr.alloc (.cells #[] 3 (0, 0))).heap[g]? = some (rowObj 3 .i64 (rg ps.length) rest)) := hide (by rw [Below.heap_alloc _ _ _ hg2]; exact hrw)
    have HB := hide (bl_al (o := .cells #[] 3 (0, 0)) hbl)
    have ho0 : (wr.alloc (.cells #[] 3 (0, 0))).ownsRow wr.heap.size 3 1 (.slice (some ⟨wr.heap.size, 0, none⟩) 0 0) 0 [] := World.ownsRow_made wr #[] 0 (Nat.le_refl _) (Nat.zero_le _) rfl
    rw [hBs] at ho0
    have HO := hide ho0
    clear ho0
    clear hown hbl hlt hj hrw hg1 hg2 hcp
    rw [rg_len]
    go_wp2
    generalize hwz : wr.alloc (.cells #[] 3 (0, 0)) = wz at *
    have HSZ : Hid (wz.heap.size = Bs + 1) := hide (by rw [← hwz, ← hBs]; simp)
    clear hwz
    (try rw [hBs])
    clear hBs
    go_loopw [6, 7] (fun u i wr' => ∃ (p : Nat) (o cs : List Int), p < ps.length ∧ i = .int .i64 (p : Int) ∧ o.length = ps.length ∧ hasAll ps.length o ∧ cs.length + p + 1 = ps.length ∧ cs ++ chF ps p o = chF ps (ps.length - 1) (rg ps.length) ∧ wr'.heap[g]? = some (rowObj 3 .i64 o rest) ∧ wr'.ownsRow Bs 3 1 u cs.length (cs.map (Value.int .i64)) ∧ Below w1.heap.size w1 wr' ∧ wz.heap.size ≤ wr'.heap.size) (fun _ i _ => (intOf i).toNat)
    case atStart =>
      exact ⟨ps.length - 1, rg ps.length, [], by omega, by go_num, rg_len _, hasAll_rg _, by simp; omega, rfl, unhide HR, unhide HO, unhide HB, Nat.le_refl _⟩
    case round =>
      obtain ⟨p, o, cs, hpl, rfl, ho, hall, hcl, hch, hrow, hown, hbl, hsz⟩ := hrel
      clear HR HO HB
      by_cases hp0 : p = 0
      · subst hp0
        rw [chF, List.append_nil] at hch
        subst hch
        have HO := hide (rowI hown (by rw [chF_len]))
        have HB := hide hbl
        clear hrow hown hbl hall ho
        go_wp2
        go_ret2
        exact ⟨_, rfl, (unhide HO).wide (by have := (unhide HB1).size; have := unhide HG; omega) (Nat.le_refl _), bl_st (unhide HB) (unhide HB1)⟩
      · obtain ⟨i, rfl⟩ : ∃ i, p = i + 1 := ⟨p - 1, by omega⟩
        rw [chF] at hch
        obtain ⟨b, off, hA, hbb, hcell⟩ := unhide HC (by omega)
        subst hA
        obtain ⟨x0, x1⟩ := unhide HI (i + 1) hpl
        have p0 : wr.cell? ⟨b, off + (i + 1), none⟩ = some (.int .i64 (ps.getD (i + 1) 0)) := (cell_below hbl hbb).trans (hcell (i + 1) hpl)
        have hix := idx_has hall x0 x1
        have hxat := idx_at o _ hix
        have hbef := idx_before o (ps.getD (i + 1) 0)
        obtain ⟨x, hxx⟩ : ∃ x, ps.getD (i + 1) 0 = x := ⟨_, rfl⟩
        have HXX := hide hxx
        rw [hxx] at p0 hch hix hxat hbef x0 x1
        clear hxx
        generalize idx o x = c at *
        have q1 : ((i + 1 : Nat) : Int) < (ps.length : Int) := by omega
        have q0 : (0 : Int) < ((i + 1 : Nat) : Int) := by omega
        have c1 : (c : Int) < (ps.length : Int) := by omega
        have c0 : (0 : Int) ≤ (c : Int) := by omega
        obtain ⟨P, hP⟩ : ∃ P, i + 1 = P := ⟨_, rfl⟩
        rw [hP] at p0 q1 q0 hch hpl ⊢
        have HX : Hid ((cs ++ [(c : Int)]) ++ chF ps i (swp o P c) = chF ps (ps.length - 1) (rg ps.length)) := hide (by rw [List.append_assoc]; exact hch)
        have HO := hide (show (swp o P c).length = ps.length by rw [swp_len]; exact ho)
        have HH := hide (hasAll_swp (i := P) (j := c) hall (by omega) (by omega))
        have HL : Hid (cs.length + P + 1 = ps.length) := hide (by omega)
        have HP := hide hP
        have cb : cs.length ≤ 16 := by omega
        have HROW := hide hrow
        have HOWN := hide hown
        have HBL := hide hbl
        have HS := hide hsz
        have HBEF := hide hbef
        have HXAT := hide hxat
        have HCO : Hid (c < o.length ∧ P < o.length ∧ o.length = ps.length) := hide ⟨hix, by omega, ho⟩
        clear hcell hbb hrow hown hbl hall ho hcl hch hix x0 x1 hpl hp0 hP hbef hxat hsz
        generalize wr = wq at *
        go_wp2
        go_loopw [8] (fun s wy => ∃ (j k : Nat), j ≤ c ∧ s = .int .i64 (j : Int) ∧ wy = wq.drewN k) (fun s _ => c - (intOf s).toNat)
        case atStart => exact ⟨0, 0, by omega, rfl, rfl⟩
        case round =>
          obtain ⟨j, k, hj, rfl, rfl⟩ := hrel
          have pp : ∀ k, (wq.drewN k).cell? ⟨b, off + P, none⟩ = some (.int .i64 x) := fun k => p0
          have pj : ∀ k, (wq.drewN k).cell? ⟨g, j, none⟩ = some (.int .i64 (o.getD j 0)) := fun k => cell_rowO (w := wq.drewN k) (unhide HROW) j (by have := unhide HCO; omega)
          have j1 : (j : Int) < (ps.length : Int) := by omega
          have j0 : (0 : Int) ≤ (j : Int) := by omega
          by_cases he : j = c
          · subst he
            rw [unhide HXAT] at pj
            clear hj
            go_wp2
            go_quiet (fail)
            rw [show (wq.drewN k).drewN nq = wq.drewN (k + nq) by simp [World.drewN, Nat.add_assoc]]
            generalize k + nq = K at *
            obtain ⟨hco1, hco2, hco3⟩ := unhide HCO
            have hrow : (wq.drewN K).heap[g]? = some (rowObj 3 .i64 o rest) := unhide HROW
            have hown : (wq.drewN K).ownsRow Bs 3 1 u6 cs.length (cs.map (Value.int .i64)) := unhide HOWN
            have hbl : Below w1.heap.size w1 (wq.drewN K) := below_drewN (unhide HBL) K
            have hsz : wz.heap.size ≤ (wq.drewN K).heap.size := unhide HS
            have hsz2 := unhide HSZ
            have hgg := unhide HG
            clear pp pj p0 HROW HOWN HBL HS HBEF
            generalize wq.drewN K = wy at *
            go_wp2_with (
              at_builtin
              refine wpList_append_lies _ rfl _ _ 23 rfl (Bs) 3 i0 (.int .i64 0) 1 8 Try.underlying23 hi0 hz0 hz1 hz2 rfl (by omega) u6 cs.length (cs.map (Value.int .i64)) rfl (hown.alloc _) ⟨wy.heap.size, 0, none⟩ 1 1 [.int .i64 (j : Int)] rfl rfl (World.news_of_block (cs := #[.int .i64 (j : Int)]) (t := 3) (fr := (0, 0)) (heap_alloc_new wy _)) (by simp [Value.oneCell']) (by omega) (by unfold maxLen; omega) (by omega) (by simp; omega) (wy.heap.size + 1) (by simp) ?_
              intro gg cp w6 hown3 hgrow3 hat hltg
              have B6 := (bl_al hbl).grown hgrow3 (bl_al hbl).size fun k hk => by have := (hown.lt k hk).1; omega
              have R6 : w6.heap[g]? = some (rowObj 3 .i64 o rest) := by
                rw [hgrow3.block _ (by have := (Array.getElem?_eq_some_iff.1 hrow).1; simp; omega) (fun e => by have := (hown.lt _ e.symm).1; omega), Below.heap_alloc _ _ _ (Array.getElem?_eq_some_iff.1 hrow).1]
                exact hrow
              have O6 : w6.ownsRow Bs 3 1 (.slice (some ⟨gg, 0, none⟩) (cs.length + 1) cp) (cs ++ [(j : Int)]).length ((cs ++ [(j : Int)]).map (Value.int .i64)) := by rw [map_snoc, List.length_append]; exact hown3
              have Z6 : wz.heap.size ≤ w6.heap.size := by have := hgrow3.size; simp at this; omega
              have p1 := cell_rowO R6 P (by omega)
              have p2 := free_rowO R6 j
              have p3 := cell_rowO R6 j (by omega)
              have s1 := set_rowO R6 j (o.getD P 0) (by omega)
              have p4 := free_rowO s1 P
              have p5 := cell_rowO s1 P (by rw [List.length_set]; omega)
              have s2 := set_rowO s1 P x (by rw [List.length_set]; omega)
              rw [swp_other o P j x (unhide HXAT)] at s2
              have b1 : Below w1.heap.size w1 (w6.setCell ⟨g, j, none⟩ (.int .i64 (o.getD P 0))) := bl_set B6 hgg.1
              have p7 : (w6.setCell ⟨g, j, none⟩ (.int .i64 (o.getD P 0))).cell? ⟨b, off + P, none⟩ = some (.int .i64 x) := by
                obtain ⟨b', off', hA, hbb, hcell⟩ := unhide HC (by omega)
                simp only [Option.some.injEq, Addr.mk.injEq] at hA
                obtain ⟨rfl, rfl, _⟩ := hA
                rw [cell_below b1 hbb, hcell P (by omega), ← unhide HP, unhide HXX]
              have l1 : Lone g w6 ((w6.setCell ⟨g, j, none⟩ (.int .i64 (o.getD P 0))).setCell ⟨g, P, none⟩ (.int .i64 x)) := (lone_setCell g j w6 _).trans (lone_setCell g P _ _)
              have F1 := hide s2
              have F2 := hide (ownsRow_lone O6 l1 hgg.2)
              have F3 := hide (bl_set (i := P) (v := .int .i64 x) b1 hgg.1)
              have F4 := hide (Nat.le_trans Z6 l1.size)
              clear hrow hown hbl hsz hsz2 hgg hown3 hgrow3 hat hltg B6 R6 O6 Z6 s1 s2 b1 l1 hco1 hco2 hco3
              generalize swp o P j = o2 at *
              generalize (o.set j (o.getD P 0)).getD P 0 = z at *
              rw [unhide HXAT] at p3
              generalize o.getD P 0 = y at *)
            go_roundw
            case rel => exact ⟨i, o2, cs ++ [(j : Int)], by have := unhide HP; have := unhide HL; omega, by have := unhide HP; go_num, unhide HO, unhide HH, by have := unhide HP; have := unhide HL; rw [List.length_append, List.length_singleton]; omega, unhide HX, unhide F1, unhide F2, unhide F3, unhide F4⟩
            case measure => have := unhide HP; simp [intOf]; omega
          · have hne : (o.getD j 0 != x) = true := by simpa using unhide HBEF j (by omega)
            have HJ := hide (show j + 1 ≤ c by omega)
            clear hj he
            generalize o.getD j 0 = y at *
            go_wp2
            go_quiet (fail)
            rw [show (wq.drewN k).drewN nq = wq.drewN (k + nq) by simp [World.drewN, Nat.add_assoc]]
            go_wp2
            go_roundw
            case rel => exact ⟨j + 1, _, unhide HJ, by go_num, rfl⟩
            case measure => have := unhide HJ; simp [intOf]; omega
theorem chR_len (ps : List Int) : (chR ps).1.length ≤ 16 := by
  rcases pmC_ok (ps := ps) with ⟨hg, hp⟩ | ⟨hne, _⟩
  · rw [chR_ok hg, chF_len]; have := (pOK_in hp).2.1; omega
  · rw [chR_code rfl hne]; simp
theorem law_cho (w : World) (v : Value) (xs : List Int) (hv : intsV w v xs) (hl : xs.length ≤ maxLen) :
    Calls Try.prog 6 #[v] w fun e w' => e = .returned (.bool true) ∧ Below w.heap.size w w' := by
  have HV := hide hv
  obtain ⟨A, cap, rfl, hc⟩ := hv
  clear hc
  unfold maxLen at hl
  have n0 : (0 : Int) ≤ (xs.length : Int) := by omega
  have n1 : (xs.length : Int) ≤ 9223372036854775807 := by omega
  by_cases h1 : 1048576 < xs.length
  · have q : (1048576 : Int) < (xs.length : Int) := by omega
    clear h1 hl HV
    go_enter Try.func6, Try.ntmps6
    go_wp2
    go_ret
    exact ⟨rfl, Below.refl _ _⟩
  have q : (xs.length : Int) ≤ 1048576 := by omega
  have HN := hide (show xs.length ≤ 1048576 by omega)
  clear h1 hl
  have HTO : Hid (∀ u W, intsV W u xs → Calls Try.prog 19 #[u] W fun e w' => ∃ r, e = .returned r ∧ ownI W.heap.size w'.heap.size w' r xs ∧ Below W.heap.size W w') := hide fun u W hu => to6 u xs W hu (by have := unhide HN; omega)
  have HSP : Hid (∀ u W, intsV W u xs → Calls Try.prog 23 #[u] W fun e w' => outI W (chR xs).1 (chR xs).2 e w') := hide fun u W hu => choices23 u xs W hu (unhide HN)
  have HIM : Hid (∀ u W, intsV W u xs → Calls Try.prog 12 #[u] W fun e w' => outI W (chR xs).1 (chR xs).2 e w') := hide fun u W hu => choices12 u xs W hu (unhide HN)
  have HLN := hide (chR_len xs)
  generalize chR xs = rr at *
  obtain ⟨ys, c⟩ := rr
  dsimp only at *
  have HEX : Hid (∀ u u' W, intsV W u xs → intsV W u' xs → Calls Try.prog 20 #[u, u'] W fun e w' => e = .returned (.bool true) ∧ ∃ k, w' = W.drewN k) := hide fun u u' W hu hu' => eq8 u u' xs W hu hu' (by have := unhide HN; omega)
  have HEY : Hid (∀ u u' W, intsV W u ys → intsV W u' ys → Calls Try.prog 20 #[u, u'] W fun e w' => e = .returned (.bool true) ∧ ∃ k, w' = W.drewN k) := hide fun u u' W hu hu' => eq8 u u' ys W hu hu' (by have := unhide HLN; omega)
  have HMX : Hid (∀ lo hi u W, ownI lo hi W u xs → Calls Try.prog 21 #[u, .int .i64 1] W fun e w' => e = .returned (.int .i64 (1 + (xs.length : Int))) ∧ ownI lo hi w' u (marksI 1 xs.length) ∧ TouchS u W w') := hide fun lo hi u W hu => mark21 lo hi u xs 1 W hu (by have := unhide HN; omega) (by omega)
  have HMY : Hid (∀ lo hi u W, ownI lo hi W u ys → Calls Try.prog 21 #[u, .int .i64 1] W fun e w' => e = .returned (.int .i64 (1 + (ys.length : Int))) ∧ ownI lo hi w' u (marksI 1 ys.length) ∧ TouchS u W w') := hide fun lo hi u W hu => mark21 lo hi u ys 1 W hu (by have := unhide HLN; omega) (by omega)
  have HHY : Hid (∀ u W, intsV W u (marksI 1 ys.length) → Calls Try.prog 22 #[u, .int .i64 1] W fun e w' => e = .returned (.int .i64 (1 + (ys.length : Int))) ∧ w' = W) := hide fun u W hu => held22 u 1 ys.length W hu (by have := unhide HLN; omega) (by omega)
  have y0 : (0 : Int) ≤ (ys.length : Int) := by omega
  go_enter Try.func6, Try.ntmps6
  go_wp2_with fail
  refine (unhide HTO _ w (unhide HV)).mono ?_
  rintro e w2 ⟨u1, rfl, o2, b2⟩
  have B2 := hide b2
  have U2 := hide o2.ints
  have Z2 := hide b2.size
  clear o2 b2
  go_wp2_with fail
  refine (unhide HSP _ w2 (unhide U2)).mono ?_
  rintro e w3 ⟨r3, rfl, o3, b3⟩
  have B3 := hide (bl_st b3 (unhide B2))
  have W3 := hide o3
  have Z3 := hide b3.size
  clear U2 b3 o3 B2
  go_wp2_with fail
  refine (unhide HTO _ w3 ((unhide HV).below (unhide B3))).mono ?_
  rintro e w4 ⟨u, rfl, o4, b4⟩
  have B4 := hide (bl_st b4 (unhide B3))
  have X4 := hide o4
  have W4 := hide ((unhide W3).below b4)
  have Z4 := hide b4.size
  clear o4 b4 B3 W3
  go_wp2_with fail
  refine (unhide HIM _ w4 (unhide X4).ints).mono ?_
  rintro e w5 ⟨r5, rfl, o5, b5⟩
  have B5 := hide (bl_st b5 (unhide B4))
  have X5 := hide ((unhide X4).below b5)
  have W5 := hide ((unhide W4).below b5)
  have G5 := hide o5
  have Z5 := hide b5.size
  clear b5 B4 X4 W4 o5
  go_wp2_with fail
  refine (unhide HEY _ _ w5 (unhide G5).ints (unhide W5).ints).mono ?_
  rintro e w6 ⟨rfl, k6, hw6⟩
  have b6 : Below w5.heap.size w5 w6 := by rw [hw6]; exact below_drewN (Below.refl _ _) k6
  have B6 := hide (bl_st b6 (unhide B5))
  have X6 := hide ((unhide X5).below b6)
  have W6 := hide ((unhide W5).below b6)
  have G6 := hide ((unhide G5).below b6)
  have Z6 := hide b6.size
  clear b6 B5 X5 W5 G5 hw6
  go_wp2_with fail
  refine (unhide HTO _ w6 ((unhide HV).below (unhide B6))).mono ?_
  rintro e w7 ⟨u7, rfl, o7, b7⟩
  have B7 := hide (bl_st b7 (unhide B6))
  have X7 := hide ((unhide X6).below b7)
  have W7 := hide ((unhide W6).below b7)
  have G7 := hide ((unhide G6).below b7)
  have U7 := hide o7.ints
  have Z7 := hide b7.size
  clear b7 B6 X6 W6 G6 o7
  go_wp2_with fail
  refine (unhide HEX _ _ w7 (unhide X7).ints (unhide U7)).mono ?_
  rintro e w8 ⟨rfl, k8, hw8⟩
  have b8 : Below w7.heap.size w7 w8 := by rw [hw8]; exact below_drewN (Below.refl _ _) k8
  have B8 := hide (bl_st b8 (unhide B7))
  have X8 := hide ((unhide X7).below b8)
  have W8 := hide ((unhide W7).below b8)
  have G8 := hide ((unhide G7).below b8)
  have Z8 := hide b8.size
  clear b8 B7 X7 W7 G7 U7 hw8
  go_wp2_with fail
  refine (unhide HMX _ _ _ w8 (unhide X8)).mono ?_
  rintro e w9 ⟨rfl, _, t9⟩
  have B9 := hide (belowS (unhide B8) t9 (unhide X8).lies (by have := unhide Z2; have := unhide Z3; omega) (unhide B8).size)
  have W9 := hide ((unhide W8).touchS t9 fun g h1 h2 => by have := (unhide W8).lies g h1; have := (unhide X8).lies g h2; omega)
  have G9 := hide ((unhide G8).touchS t9 fun g h1 h2 => by have := (unhide G8).lies g h1; have := (unhide X8).lies g h2; omega)
  have Z9 := hide t9.size
  clear t9 B8 X8 W8 G8
  go_wp2_with fail
  refine (unhide HEY _ _ w9 (unhide G9).ints (unhide W9).ints).mono ?_
  rintro e w10 ⟨rfl, k10, hw10⟩
  have b10 : Below w9.heap.size w9 w10 := by rw [hw10]; exact below_drewN (Below.refl _ _) k10
  have B10 := hide (bl_st b10 (unhide B9))
  have W10 := hide ((unhide W9).below b10)
  have G10 := hide ((unhide G9).below b10)
  have Z10 := hide b10.size
  clear b10 B9 W9 G9 hw10
  go_wp2_with fail
  refine (unhide HMY _ _ _ w10 (unhide G10)).mono ?_
  rintro e w11 ⟨rfl, o11, t11⟩
  have B11 := hide (belowS (unhide B10) t11 (unhide G10).lies (by have := unhide Z2; have := unhide Z3; have := unhide Z4; omega) (unhide B10).size)
  have W11 := hide ((unhide W10).touchS t11 fun g h1 h2 => by have := (unhide W10).lies g h1; have := (unhide G10).lies g h2; have := unhide Z4; omega)
  have G11 := hide o11
  clear t11 o11 B10 W10 G10
  go_wp2_with fail
  refine (unhide HHY _ w11 (unhide G11).ints).mono ?_
  rintro e w12 ⟨rfl, hw12⟩
  have hw13 := hw12.symm
  subst hw13
  go_wp2_with fail
  refine (unhide HTO _ w11 ((unhide HV).below (unhide B11))).mono ?_
  rintro e w14 ⟨u14, rfl, o14, b14⟩
  have B14 := hide (bl_st b14 (unhide B11))
  have W14 := hide ((unhide W11).below b14)
  have G14 := hide ((unhide G11).below b14)
  have U14 := hide o14.ints
  clear b14 B11 W11 G11 o14
  go_wp2_with fail
  refine (unhide HIM _ w14 (unhide U14)).mono ?_
  rintro e w15 ⟨r15, rfl, o15, b15⟩
  have B15 := hide (bl_st b15 (unhide B14))
  have W15 := hide ((unhide W14).below b15)
  have G15 := hide ((unhide G14).below b15)
  have H15 := hide o15.ints
  clear b15 B14 W14 G14 o15 U14
  go_wp2_with fail
  refine (unhide HEY _ _ w15 (unhide H15) (unhide W15).ints).mono ?_
  rintro e w16 ⟨rfl, k16, hw16⟩
  have b16 : Below w15.heap.size w15 w16 := by rw [hw16]; exact below_drewN (Below.refl _ _) k16
  have B16 := hide (bl_st b16 (unhide B15))
  have G16 := hide ((unhide G15).below b16)
  clear b16 B15 W15 G15 H15 hw16
  go_wp2_with fail
  refine (unhide HHY _ w16 (unhide G16).ints).mono ?_
  rintro e w17 ⟨rfl, hw17⟩
  have hw18 := hw17.symm
  subst hw18
  go_wp2
  go_ret
  exact ⟨rfl, unhide B16⟩
end Go.Proofs.Ytfodcnnaeakhfaa
