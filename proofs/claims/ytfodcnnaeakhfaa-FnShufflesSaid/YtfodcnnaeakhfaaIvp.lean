/- InvertPerm, both sides, and the law of it, walked. -/
import Derived.Test.YtfodcnnaeakhfaaRgt
import Derived.Test.YtfodcnnaeakhfaaMki
namespace Go.Proofs.Ytfodcnnaeakhfaa
open Go.RowKit
set_option maxHeartbeats 4000000
set_option maxRecDepth 20000
theorem pOK_in {ps : List Int} (h : pOK ps = true) : (∀ k, k < ps.length → 0 ≤ ps.getD k 0 ∧ ps.getD k 0 < (ps.length : Int)) ∧ ps.length ≤ 16 ∧ 1 ≤ ps.length := by
  unfold pOK at h
  simp only [Bool.and_eq_true] at h
  exact ⟨fun k hk => disB_in h.2 k hk, of_decide_eq_true h.1.2, of_decide_eq_true h.1.1⟩
theorem pmC_ok {ps : List Int} : (pmC ps = 0 ∧ pOK ps = true) ∨ (pmC ps ≠ 0 ∧ (pmC ps = 2 ∧ 4096 < ps.length ∨ pmC ps = 1 ∧ ps.length ≤ 4096 ∧ pOK ps = false)) := by
  rcases pmC_cases ps with ⟨h1, hg⟩ | ⟨h1, _, hp, hg⟩ | ⟨h1, h2, _, hg⟩
  · exact .inr ⟨by omega, .inl ⟨hg, h1⟩⟩
  · exact .inr ⟨by omega, .inr ⟨hg, h1, hp⟩⟩
  · cases hp : pOK ps
    · rw [hp] at hg
      have hg' : pmC ps = 1 := hg
      exact .inr ⟨by omega, .inr ⟨hg', by omega, rfl⟩⟩
    · rw [hp] at hg
      exact .inl ⟨hg, rfl⟩
def ivR (ps : List Int) : List Int × Int := if pmC ps = 0 then (invF ps 0 (List.replicate ps.length 0), 0) else ([], pmC ps)
theorem ivR_code {ps : List Int} {c : Int} (h : pmC ps = c) (hc : c ≠ 0) : ivR ps = ([], c) := by unfold ivR; rw [h, if_neg hc]
theorem ivR_ok {ps : List Int} (h : pmC ps = 0) : ivR ps = (invF ps 0 (List.replicate ps.length 0), 0) := by unfold ivR; rw [if_pos h]
theorem inv13 (v : Value) (ps : List Int) (w : World) (hv : intsV w v ps) (hn : ps.length ≤ 1048576) : Calls Try.prog 13 #[v] w fun e w' => outI w (ivR ps).1 (ivR ps).2 e w' := by
  have K1 := hide (code31 v ps w hv hn)
  have HV := hide hv
  obtain ⟨A, cap, rfl, _⟩ := hv
  have n0 : (0 : Int) ≤ (ps.length : Int) := by omega
  have n1 : (ps.length : Int) ≤ 1048576 := by omega
  rcases pmC_ok (ps := ps) with ⟨hg, hp⟩ | ⟨hne, _⟩
  · rw [ivR_ok hg]
    rw [hg] at K1
    obtain ⟨hi, h16, h1⟩ := pOK_in hp
    have HI := hide hi
    have mk := make_ints ps.length (by omega)
    have q : (ps.length : Int) ≤ 16 := by omega
    clear hg hn hp hi
    go_enter Try.func13, Try.ntmps13
    go_wp2_with fail
    refine (unhide K1).mono ?_
    rintro e w1 ⟨rfl, hb⟩
    have V1 := (unhide HV).below hb
    have HB1 := hide hb
    obtain ⟨A', cap', he, hcell⟩ := V1
    simp only [Value.slice.injEq] at he
    obtain ⟨rfl, _, rfl⟩ := he
    have HC := hide hcell
    clear K1 hb hcell HV
    go_wp2
    clear mk
    go_loopw [18] (fun i wr => ∃ (j : Nat) (o : List Int), j ≤ ps.length ∧ i = .int .i64 j ∧ o.length = ps.length ∧ invF (ps.drop j) j o = invF ps 0 (List.replicate ps.length 0) ∧ wr.heap[w1.heap.size]? = some (rowObj 3 .i64 o []) ∧ Below w1.heap.size w1 wr) (fun i _ => ps.length - (intOf i).toNat)
    case atStart => exact ⟨0, _, by omega, rfl, by simp, rfl, heap_at _ _ _ rfl, bl_al (Below.refl _ _)⟩
    case round =>
      obtain ⟨j, o, hj, rfl, ho, hd, hrow, hbl⟩ := hrel
      by_cases hlt : j < ps.length
      · obtain ⟨b, off, hA, hbb, hcell⟩ := unhide HC (by omega)
        subst hA
        have q1 : (j : Int) < (ps.length : Int) := by omega
        have q0 : (0 : Int) ≤ (j : Int) := by omega
        have p0 : wr.cell? ⟨b, off + j, none⟩ = some (.int .i64 (ps.getD j 0)) := (cell_below hbl hbb).trans (hcell j hlt)
        obtain ⟨c0, c1⟩ := unhide HI j hlt
        rw [drop_at hlt, invF] at hd
        have HJ := hide hlt
        clear hcell hlt hj hbb
        generalize ps.getD j 0 = c at *
        obtain ⟨m, rfl⟩ : ∃ m : Nat, c = (m : Int) := ⟨c.toNat, by omega⟩
        rw [Int.toNat_natCast] at hd
        have p1 := cell_rowO hrow m (by omega)
        have p2 := free_rowO hrow m
        have p3 := set_rowO hrow m (j : Int) (by omega)
        have HS := hide (show (o.set m (j : Int)).length = ps.length by rw [List.length_set]; exact ho)
        have HP := hide p3
        have HF := hide hd
        have HB := hide hbl
        clear hrow p3 ho hd hbl
        generalize o.set m (j : Int) = o2 at *
        generalize o.getD m 0 = x at *
        go_wp2
        go_roundw
        case rel => exact ⟨j + 1, o2, unhide HJ, by go_num, unhide HS, unhide HF, unhide HP, bl_set (unhide HB) (Nat.le_refl _)⟩
        case measure => have := unhide HJ; simp [intOf]; omega
      · obtain rfl : j = ps.length := by omega
        rw [List.drop_length, invF] at hd
        have HF := hide hd.symm
        have HB := hide hbl
        have HR := hide hrow
        have HO := hide ho
        clear hd hlt hbl hrow ho
        go_wp2
        go_ret2
        refine ⟨_, rfl, ?_, bl_st (unhide HB) (unhide HB1)⟩
        rw [unhide HF]
        exact (own_row (unhide HR) (unhide HO) _ (Nat.le_refl _)).wide (unhide HB1).size (Nat.le_refl _)
  · rw [ivR_code rfl hne]
    clear HV
    have h0 : (pmC ps != 0) = true := by simpa using hne
    clear hn hne
    generalize pmC ps = c at *
    go_enter Try.func13, Try.ntmps13
    go_wp2_with fail
    refine (unhide K1).mono ?_
    rintro e w1 ⟨rfl, hb⟩
    have HB1 := hide hb
    clear K1 hb
    go_wp2
    go_ret2
    exact ⟨_, rfl, .inl ⟨rfl, rfl⟩, unhide HB1⟩
theorem invert41 (v : Value) (ps : List Int) (w : World) (hv : intsV w v ps) (hp : pOK ps = true) : Calls Try.prog 41 #[v] w fun e w' => ∃ r, e = .returned r ∧ ownI w.heap.size w'.heap.size w' r (invF ps 0 (List.replicate ps.length 0)) ∧ Below w.heap.size w w' := by
  obtain ⟨A, cap, rfl, hcell⟩ := hv
  have HC := hide hcell
  obtain ⟨hi, h16, h1⟩ := pOK_in hp
  have HI := hide hi
  have mk := make_ints ps.length (by omega)
  have n0 : (0 : Int) ≤ (ps.length : Int) := by omega
  have q : (ps.length : Int) ≤ 16 := by omega
  clear hcell hp hi
  go_enter Try.func41, Try.ntmps41
  go_wp2
  clear mk
  go_loopw [4] (fun i wr => ∃ (j : Nat) (o : List Int), j ≤ ps.length ∧ i = .int .i64 j ∧ o.length = ps.length ∧ invF (ps.drop j) j o = invF ps 0 (List.replicate ps.length 0) ∧ wr.heap[w.heap.size]? = some (rowObj 3 .i64 o []) ∧ Below w.heap.size w wr) (fun i _ => ps.length - (intOf i).toNat)
  case atStart => exact ⟨0, _, by omega, rfl, by simp, rfl, heap_at _ _ _ rfl, bl_al (Below.refl _ _)⟩
  case round =>
    obtain ⟨j, o, hj, rfl, ho, hd, hrow, hbl⟩ := hrel
    by_cases hlt : j < ps.length
    · obtain ⟨b, off, hA, hbb, hcell⟩ := unhide HC (by omega)
      subst hA
      have q1 : (j : Int) < (ps.length : Int) := by omega
      have q0 : (0 : Int) ≤ (j : Int) := by omega
      have p0 : wr.cell? ⟨b, off + j, none⟩ = some (.int .i64 (ps.getD j 0)) := (cell_below hbl hbb).trans (hcell j hlt)
      obtain ⟨c0, c1⟩ := unhide HI j hlt
      rw [drop_at hlt, invF] at hd
      have HJ := hide hlt
      clear hcell hlt hj hbb
      generalize ps.getD j 0 = c at *
      obtain ⟨m, rfl⟩ : ∃ m : Nat, c = (m : Int) := ⟨c.toNat, by omega⟩
      rw [Int.toNat_natCast] at hd
      have p1 := cell_rowO hrow m (by omega)
      have p2 := free_rowO hrow m
      have p3 := set_rowO hrow m (j : Int) (by omega)
      have HS := hide (show (o.set m (j : Int)).length = ps.length by rw [List.length_set]; exact ho)
      have HP := hide p3
      have HF := hide hd
      have HB := hide hbl
      clear hrow p3 ho hd hbl
      generalize o.set m (j : Int) = o2 at *
      generalize o.getD m 0 = x at *
      go_wp2
      go_roundw
      case rel => exact ⟨j + 1, o2, unhide HJ, by go_num, unhide HS, unhide HF, unhide HP, bl_set (unhide HB) (Nat.le_refl _)⟩
      case measure => have := unhide HJ; simp [intOf]; omega
    · obtain rfl : j = ps.length := by omega
      rw [List.drop_length, invF] at hd
      have HF := hide hd.symm
      have HB := hide hbl
      have HR := hide hrow
      have HO := hide ho
      clear hd hlt hbl hrow ho
      go_wp2
      go_ret
      refine ⟨_, rfl, ?_, unhide HB⟩
      rw [unhide HF]
      exact own_row (unhide HR) (unhide HO) _ (Nat.le_refl _)
theorem inv24 (v : Value) (ps : List Int) (w : World) (hv : intsV w v ps) (hn : ps.length ≤ 1048576) : Calls Try.prog 24 #[v] w fun e w' => outI w (ivR ps).1 (ivR ps).2 e w' := by
  have K1 := hide (fun h => permOK40 v ps w hv h)
  have HV := hide hv
  obtain ⟨A, cap, rfl, _⟩ := hv
  have n0 : (0 : Int) ≤ (ps.length : Int) := by omega
  have n1 : (ps.length : Int) ≤ 1048576 := by omega
  rcases pmC_ok (ps := ps) with ⟨hg, hp⟩ | ⟨_, ⟨hg, h1⟩ | ⟨hg, h1, hp⟩⟩
  · rw [ivR_ok hg]
    have h16 := (pOK_in hp).2.1
    have K2 := hide (unhide K1 (by omega))
    rw [hp] at K2
    have HI := hide hp
    have q : (ps.length : Int) ≤ 4096 := by omega
    clear hg hn hp K1 h16
    go_enter Try.func24, Try.ntmps24
    go_wp2_with fail
    refine (unhide K2).mono ?_
    rintro e w1 ⟨rfl, hb⟩
    have K3 := hide (invert41 _ ps w1 ((unhide HV).below hb) (unhide HI))
    have HB1 := hide hb
    clear K2 hb HV
    go_wp2_with fail
    refine (unhide K3).mono ?_
    rintro e w2 ⟨r, rfl, ho, hb⟩
    have HO := hide ho
    have HB := hide hb
    clear K3 ho hb
    go_wp2
    go_ret2
    exact ⟨_, rfl, (unhide HO).wide (unhide HB1).size (Nat.le_refl _), bl_st (unhide HB) (unhide HB1)⟩
  · rw [ivR_code hg (by omega)]
    have q : (4096 : Int) < (ps.length : Int) := by omega
    clear hg hn K1 h1 HV
    go_enter Try.func24, Try.ntmps24
    go_wp2
    go_ret2
    exact ⟨_, rfl, empty_own w, bl_al (Below.refl _ _)⟩
  · rw [ivR_code hg (by omega)]
    have K2 := hide (unhide K1 h1)
    rw [hp] at K2
    have q : (ps.length : Int) ≤ 4096 := by omega
    clear hg hn K1 h1 HV hp
    go_enter Try.func24, Try.ntmps24
    go_wp2_with fail
    refine (unhide K2).mono ?_
    rintro e w1 ⟨rfl, hb⟩
    have HB1 := hide hb
    clear K2 hb
    go_wp2
    go_ret2
    exact ⟨_, rfl, (empty_own w1).wide (unhide HB1).size (Nat.le_refl _), bl_al (unhide HB1)⟩
theorem ivR_len (ps : List Int) : (ivR ps).1.length ≤ 16 := by
  rcases pmC_ok (ps := ps) with ⟨hg, hp⟩ | ⟨hne, _⟩
  · rw [ivR_ok hg, invF_len, List.length_replicate]; exact (pOK_in hp).2.1
  · rw [ivR_code rfl hne]; simp
theorem law_inv (w : World) (v : Value) (xs : List Int) (hv : intsV w v xs) (hl : xs.length ≤ maxLen) :
    Calls Try.prog 7 #[v] w fun e w' => e = .returned (.bool true) ∧ Below w.heap.size w w' := by
  have HV := hide hv
  obtain ⟨A, cap, rfl, hc⟩ := hv
  clear hc
  unfold maxLen at hl
  have n0 : (0 : Int) ≤ (xs.length : Int) := by omega
  have n1 : (xs.length : Int) ≤ 9223372036854775807 := by omega
  by_cases h1 : 1048576 < xs.length
  · have q : (1048576 : Int) < (xs.length : Int) := by omega
    clear h1 hl HV
    go_enter Try.func7, Try.ntmps7
    go_wp2
    go_ret
    exact ⟨rfl, Below.refl _ _⟩
  have q : (xs.length : Int) ≤ 1048576 := by omega
  have HN := hide (show xs.length ≤ 1048576 by omega)
  clear h1 hl
  have HTO : Hid (∀ u W, intsV W u xs → Calls Try.prog 19 #[u] W fun e w' => ∃ r, e = .returned r ∧ ownI W.heap.size w'.heap.size w' r xs ∧ Below W.heap.size W w') := hide fun u W hu => to6 u xs W hu (by have := unhide HN; omega)
  have HSP : Hid (∀ u W, intsV W u xs → Calls Try.prog 24 #[u] W fun e w' => outI W (ivR xs).1 (ivR xs).2 e w') := hide fun u W hu => inv24 u xs W hu (unhide HN)
  have HIM : Hid (∀ u W, intsV W u xs → Calls Try.prog 13 #[u] W fun e w' => outI W (ivR xs).1 (ivR xs).2 e w') := hide fun u W hu => inv13 u xs W hu (unhide HN)
  have HLN := hide (ivR_len xs)
  generalize ivR xs = rr at *
  obtain ⟨ys, c⟩ := rr
  dsimp only at *
  have HEX : Hid (∀ u u' W, intsV W u xs → intsV W u' xs → Calls Try.prog 20 #[u, u'] W fun e w' => e = .returned (.bool true) ∧ ∃ k, w' = W.drewN k) := hide fun u u' W hu hu' => eq8 u u' xs W hu hu' (by have := unhide HN; omega)
  have HEY : Hid (∀ u u' W, intsV W u ys → intsV W u' ys → Calls Try.prog 20 #[u, u'] W fun e w' => e = .returned (.bool true) ∧ ∃ k, w' = W.drewN k) := hide fun u u' W hu hu' => eq8 u u' ys W hu hu' (by have := unhide HLN; omega)
  have HMX : Hid (∀ lo hi u W, ownI lo hi W u xs → Calls Try.prog 21 #[u, .int .i64 1] W fun e w' => e = .returned (.int .i64 (1 + (xs.length : Int))) ∧ ownI lo hi w' u (marksI 1 xs.length) ∧ TouchS u W w') := hide fun lo hi u W hu => mark21 lo hi u xs 1 W hu (by have := unhide HN; omega) (by omega)
  have HMY : Hid (∀ lo hi u W, ownI lo hi W u ys → Calls Try.prog 21 #[u, .int .i64 1] W fun e w' => e = .returned (.int .i64 (1 + (ys.length : Int))) ∧ ownI lo hi w' u (marksI 1 ys.length) ∧ TouchS u W w') := hide fun lo hi u W hu => mark21 lo hi u ys 1 W hu (by have := unhide HLN; omega) (by omega)
  have HHY : Hid (∀ u W, intsV W u (marksI 1 ys.length) → Calls Try.prog 22 #[u, .int .i64 1] W fun e w' => e = .returned (.int .i64 (1 + (ys.length : Int))) ∧ w' = W) := hide fun u W hu => held22 u 1 ys.length W hu (by have := unhide HLN; omega) (by omega)
  have y0 : (0 : Int) ≤ (ys.length : Int) := by omega
  go_enter Try.func7, Try.ntmps7
  go_wp2_with fail
  refine (unhide HTO _ w (unhide HV)).mono ?_
  rintro e w2 ⟨u1, rfl, o2, b2⟩
  have B2 := hide b2
  have U2 := hide o2.ints
  have Z2 := hide b2.size
  clear o2 b2
  go_wp2_with fail
  refine (unhide HSP _ w2 (unhide U2)).mono ?_
  rintro e w3 ⟨r3, rfl, o3, b3⟩
  have B3 := hide (bl_st b3 (unhide B2))
  have W3 := hide o3
  have Z3 := hide b3.size
  clear U2 b3 o3 B2
  go_wp2_with fail
  refine (unhide HTO _ w3 ((unhide HV).below (unhide B3))).mono ?_
  rintro e w4 ⟨u, rfl, o4, b4⟩
  have B4 := hide (bl_st b4 (unhide B3))
  have X4 := hide o4
  have W4 := hide ((unhide W3).below b4)
  have Z4 := hide b4.size
  clear o4 b4 B3 W3
  go_wp2_with fail
  refine (unhide HIM _ w4 (unhide X4).ints).mono ?_
  rintro e w5 ⟨r5, rfl, o5, b5⟩
  have B5 := hide (bl_st b5 (unhide B4))
  have X5 := hide ((unhide X4).below b5)
  have W5 := hide ((unhide W4).below b5)
  have G5 := hide o5
  have Z5 := hide b5.size
  clear b5 B4 X4 W4 o5
  go_wp2_with fail
  refine (unhide HEY _ _ w5 (unhide G5).ints (unhide W5).ints).mono ?_
  rintro e w6 ⟨rfl, k6, hw6⟩
  have b6 : Below w5.heap.size w5 w6 := by rw [hw6]; exact below_drewN (Below.refl _ _) k6
  have B6 := hide (bl_st b6 (unhide B5))
  have X6 := hide ((unhide X5).below b6)
  have W6 := hide ((unhide W5).below b6)
  have G6 := hide ((unhide G5).below b6)
  have Z6 := hide b6.size
  clear b6 B5 X5 W5 G5 hw6
  go_wp2_with fail
  refine (unhide HTO _ w6 ((unhide HV).below (unhide B6))).mono ?_
  rintro e w7 ⟨u7, rfl, o7, b7⟩
  have B7 := hide (bl_st b7 (unhide B6))
  have X7 := hide ((unhide X6).below b7)
  have W7 := hide ((unhide W6).below b7)
  have G7 := hide ((unhide G6).below b7)
  have U7 := hide o7.ints
  have Z7 := hide b7.size
  clear b7 B6 X6 W6 G6 o7
  go_wp2_with fail
  refine (unhide HEX _ _ w7 (unhide X7).ints (unhide U7)).mono ?_
  rintro e w8 ⟨rfl, k8, hw8⟩
  have b8 : Below w7.heap.size w7 w8 := by rw [hw8]; exact below_drewN (Below.refl _ _) k8
  have B8 := hide (bl_st b8 (unhide B7))
  have X8 := hide ((unhide X7).below b8)
  have W8 := hide ((unhide W7).below b8)
  have G8 := hide ((unhide G7).below b8)
  have Z8 := hide b8.size
  clear b8 B7 X7 W7 G7 U7 hw8
  go_wp2_with fail
  refine (unhide HMX _ _ _ w8 (unhide X8)).mono ?_
  rintro e w9 ⟨rfl, _, t9⟩
  have B9 := hide (belowS (unhide B8) t9 (unhide X8).lies (by have := unhide Z2; have := unhide Z3; omega) (unhide B8).size)
  have W9 := hide ((unhide W8).touchS t9 fun g h1 h2 => by have := (unhide W8).lies g h1; have := (unhide X8).lies g h2; omega)
  have G9 := hide ((unhide G8).touchS t9 fun g h1 h2 => by have := (unhide G8).lies g h1; have := (unhide X8).lies g h2; omega)
  have Z9 := hide t9.size
  clear t9 B8 X8 W8 G8
  go_wp2_with fail
  refine (unhide HEY _ _ w9 (unhide G9).ints (unhide W9).ints).mono ?_
  rintro e w10 ⟨rfl, k10, hw10⟩
  have b10 : Below w9.heap.size w9 w10 := by rw [hw10]; exact below_drewN (Below.refl _ _) k10
  have B10 := hide (bl_st b10 (unhide B9))
  have W10 := hide ((unhide W9).below b10)
  have G10 := hide ((unhide G9).below b10)
  have Z10 := hide b10.size
  clear b10 B9 W9 G9 hw10
  go_wp2_with fail
  refine (unhide HMY _ _ _ w10 (unhide G10)).mono ?_
  rintro e w11 ⟨rfl, o11, t11⟩
  have B11 := hide (belowS (unhide B10) t11 (unhide G10).lies (by have := unhide Z2; have := unhide Z3; have := unhide Z4; omega) (unhide B10).size)
  have W11 := hide ((unhide W10).touchS t11 fun g h1 h2 => by have := (unhide W10).lies g h1; have := (unhide G10).lies g h2; have := unhide Z4; omega)
  have G11 := hide o11
  clear t11 o11 B10 W10 G10
  go_wp2_with fail
  refine (unhide HHY _ w11 (unhide G11).ints).mono ?_
  rintro e w12 ⟨rfl, hw12⟩
  have hw13 := hw12.symm
  subst hw13
  go_wp2_with fail
  refine (unhide HTO _ w11 ((unhide HV).below (unhide B11))).mono ?_
  rintro e w14 ⟨u14, rfl, o14, b14⟩
  have B14 := hide (bl_st b14 (unhide B11))
  have W14 := hide ((unhide W11).below b14)
  have G14 := hide ((unhide G11).below b14)
  have U14 := hide o14.ints
  clear b14 B11 W11 G11 o14
  go_wp2_with fail
  refine (unhide HIM _ w14 (unhide U14)).mono ?_
  rintro e w15 ⟨r15, rfl, o15, b15⟩
  have B15 := hide (bl_st b15 (unhide B14))
  have W15 := hide ((unhide W14).below b15)
  have G15 := hide ((unhide G14).below b15)
  have H15 := hide o15.ints
  clear b15 B14 W14 G14 o15 U14
  go_wp2_with fail
  refine (unhide HEY _ _ w15 (unhide H15) (unhide W15).ints).mono ?_
  rintro e w16 ⟨rfl, k16, hw16⟩
  have b16 : Below w15.heap.size w15 w16 := by rw [hw16]; exact below_drewN (Below.refl _ _) k16
  have B16 := hide (bl_st b16 (unhide B15))
  have G16 := hide ((unhide G15).below b16)
  clear b16 B15 W15 G15 H15 hw16
  go_wp2_with fail
  refine (unhide HHY _ w16 (unhide G16).ints).mono ?_
  rintro e w17 ⟨rfl, hw17⟩
  have hw18 := hw17.symm
  subst hw18
  go_wp2
  go_ret
  exact ⟨rfl, unhide B16⟩
end Go.Proofs.Ytfodcnnaeakhfaa
