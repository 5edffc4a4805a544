/- Choices that are drawn; choices and orders are one to one. -/
import Derived.Test.YtfodcnnaeakhfaaChs
import Derived.Test.YtfodcnnaeakhfaaWrd
namespace Go.Proofs.Ytfodcnnaeakhfaa
open Go.RowKit
set_option maxHeartbeats 4000000
set_option maxRecDepth 100000
theorem chB_of : ∀ {cs : List Int}, (∀ i, i < cs.length → 0 ≤ cs.getD i 0 ∧ cs.getD i 0 + (i : Int) ≤ (cs.length : Int)) → chB cs = true
  | [], _ => rfl
  | c :: cs, h => by
    have h0 := h 0 (by simp)
    have e0 : (c :: cs).getD 0 0 = c := rfl
    rw [e0, List.length_cons] at h0
    rw [chB, decide_eq_true h0.1, decide_eq_true (show c ≤ (cs.length : Int) + 1 by omega), chB_of fun i hi => ?_]
    · rfl
    · have h1 := h (i + 1) (by simpa using hi)
      have e1 : (c :: cs).getD (i + 1) 0 = cs.getD i 0 := rfl
      rw [e1, List.length_cons] at h1
      exact ⟨h1.1, by omega⟩
theorem getD_snoc (xs : List Int) (x : Int) (i : Nat) (hi : i < xs.length + 1) : (xs ++ [x]).getD i 0 = if i = xs.length then x else xs.getD i 0 := by
  rw [List.getD_eq_getElem?_getD]
  by_cases e : i = xs.length
  · subst e; simp
  · rw [if_neg e, List.getElem?_append_left (by omega), ← List.getD_eq_getElem?_getD]
theorem choices26 (w : World) (p : Nat) (A : Option Addr) (n cap : Nat) (s : Int) (hs : w.heap[p]? = some (srcO A n cap 0 s)) (hn : n ≤ maxLen) (s0 : 0 ≤ s) (s1 : s < 2147483648) (hc : codeIn w p A n) :
    Calls Try.prog 26 #[.pointer (some ⟨p, 0, none⟩)] w fun e w' => ∃ (v : Value) (xs : List Int), e = .returned v ∧ xs.length ≤ 6 ∧ chB xs = true ∧ w'.ownsRow w.heap.size 3 1 v xs.length (xs.map (Value.int .i64)) ∧ w.grownBy w' (some p) := by
  obtain ⟨i0, hi0, hz0, hz1, hz2⟩ := info_parts info3b
  have hp := (Array.getElem?_eq_some_iff.1 hs).1
  have K := hide (next_at 7 w p A n cap 0 s hs (by omega) (by omega) hn (by omega) s0 s1 hc)
  have HC := hide hc
  go_enter Try.func26, Try.ntmps26
  go_wp2_with fail
  refine (unhide K).mono ?_
  rintro e w1 ⟨c, s', d, rfl, c0, c1, t0, t1, hw1⟩
  obtain ⟨N, rfl⟩ : ∃ N : Nat, c = (N : Int) := ⟨c.toNat, by omega⟩
  have g1 : w.grownBy w1 (some p) := by rw [hw1]; exact grown_src (World.grownBy.refl w _)
  have z1 : w1.heap.size = w.heap.size := by rw [hw1]; exact size_src _ _ _ _ _ _ _ _
  have o1 : w1.heap[p]? = some (srcO A n cap ((0 + 1 : Nat) : Int) s') := by rw [hw1]; exact get_src _ _ _ _ _ _ _ _ hp
  clear K hw1 hs s0 s1 hc
  go_wp2
  go_loopw [4, 5] (fun o c wr => ∃ (j : Nat) (xs : List Int) (s' : Int), j ≤ N ∧ xs.length = j ∧ (∀ i, i < xs.length → 0 ≤ xs.getD i 0 ∧ xs.getD i 0 + (i : Int) ≤ (N : Int)) ∧ c = .int .i64 j ∧ 0 ≤ s' ∧ s' < 2147483648 ∧ wr.ownsRow w.heap.size 3 1 o j (xs.map (Value.int .i64)) ∧ wr.heap[p]? = some (srcO A n cap ((j + 1 : Nat) : Int) s') ∧ w.grownBy wr (some p)) (fun _ c _ => N - (intOf c).toNat)
  case atStart =>
    refine ⟨0, [], s', Nat.zero_le _, rfl, (fun x hx => by simp at hx), rfl, t0, t1, ?_, by rw [Below.heap_alloc _ _ _ (by omega)]; exact o1, grown_trans g1 (World.grownBy_alloc w1 _ none) (by simp)⟩
    have h : (w1.alloc (.cells #[] 3 (0, 0))).ownsRow w1.heap.size 3 1 (.slice (some ⟨w1.heap.size, 0, none⟩) 0 0) 0 [] := World.ownsRow_made w1 #[] 0 (Nat.le_refl _) (Nat.zero_le _) rfl
    rw [z1] at h
    exact h
  case round =>
    obtain ⟨j, xs, s2, hj, hx, hxw, rfl, s20, s21, hown, hsrc, hgr⟩ := hrel
    have HXW := hide hxw
    clear hxw
    by_cases hlt : j < N
    · have q1 : (j : Int) < (N : Int) := by omega
      have q2 : (1 : Int) + (N : Int) - (j : Int) ≤ 256 := by omega
      have K2 := hide (next_at (1 + (N : Int) - (j : Int)) wr p A n cap (j + 1) s2 hsrc (by omega) q2 hn (by omega) s20 s21 (codeIn_grown (unhide HC) hgr))
      go_wp2_with fail
      refine (unhide K2).mono ?_
      rintro e w2 ⟨c, s3, d2, rfl, c20, c21, s30, s31, hw2⟩
      have ho2 : w2.ownsRow w.heap.size 3 1 u4 j (xs.map (Value.int .i64)) := by rw [hw2]; exact own_src hown hp
      have hg2 : w.grownBy w2 (some p) := by rw [hw2]; exact grown_src hgr
      have hs2 : w2.heap[p]? = some (srcO A n cap ((j + 1 + 1 : Nat) : Int) s3) := by rw [hw2]; exact get_src wr d2 p A n cap _ s3 (Nat.lt_of_lt_of_le hp hgr.size)
      have hz : w.heap.size ≤ w2.heap.size := hg2.size
      have jb : j ≤ 16 := by omega
      clear hown hgr hsrc hw2 K2 o1 g1
      go_wp2_with (at_builtin; refine wpList_append_lies _ rfl _ _ 23 rfl (w.heap.size) 3 i0 (.int .i64 0) 1 8 Try.underlying23 hi0 hz0 hz1 hz2 rfl (by omega) u4 j (xs.map (Value.int .i64)) rfl (ho2.alloc _) ⟨w2.heap.size, 0, none⟩ 1 1 [.int .i64 (c : Int)] rfl rfl (World.news_of_block (cs := #[.int .i64 (c : Int)]) (t := 3) (fr := (0, 0)) (heap_alloc_new w2 _)) (by simp [Value.oneCell']) (by omega) (by unfold maxLen; omega) (by omega) (by simp; omega) (w2.heap.size + 1) (by simp) ?_; intro gg cp w3 hown3 hgrow3 hat hltg)
      go_wp2
      go_roundw
      case rel =>
        refine ⟨j + 1, xs ++ [c], s3, by omega, by simp [hx], fun i hi => ?_, by go_num, s30, s31, by rw [List.map_append]; exact hown3, ?_, ?_⟩
        · rw [List.length_append, List.length_singleton] at hi
          rw [getD_snoc _ _ _ hi]
          split
          · omega
          · exact unhide HXW i (by omega)
        · rw [hgrow3.block p (by simp; omega) (fun e => by have := (ho2.lt p e.symm).1; omega), Below.heap_alloc _ _ _ (by omega)]
          exact hs2
        · exact grown_trans (grown_trans hg2 (World.grownBy_alloc w2 _ none) (by simp)) hgrow3 fun k hk => (ho2.lt k hk).1
      case measure => simp [intOf]; omega
    · obtain rfl : j = N := by omega
      have HCH := hide (chB_of (cs := xs) (by intro i hi; have h := unhide HXW i hi; rw [hx]; exact h))
      have HO := hide hown
      have HG := hide hgr
      have HX := hide hx
      clear hown hgr hsrc hlt hj hx
      go_wp2
      go_ret
      exact ⟨_, xs, rfl, by have := unhide HX; omega, unhide HCH, by rw [unhide HX]; exact unhide HO, unhide HG⟩
theorem choicesOf2 (w : World) (A : Option Addr) (n cap : Nat) (hn : n ≤ maxLen) (hA : codeAt w A n) :
    Calls Try.prog 9 #[.slice A n cap] w fun e w' => ∃ (v : Value) (xs : List Int), e = .returned v ∧ xs.length ≤ 6 ∧ chB xs = true ∧ ownI w.heap.size w'.heap.size w' v xs ∧ Below w.heap.size w w' := by
  have KS := hide (source_any A n cap hn w)
  have s1 : ((n % 1000 : Nat) : Int) < 2147483648 := by omega
  have KM := hide (choices26 (w.alloc (srcO A n cap 0 ((n % 1000 : Nat) : Int))) w.heap.size A n cap ((n % 1000 : Nat) : Int) (heap_at _ _ _ rfl) hn (by omega) s1 (codeIn_alloc hA _))
  clear s1 hA hn
  go_enter Try.func9, Try.ntmps9
  go_wp2_with fail
  refine (unhide KS).mono ?_
  rintro e w1 ⟨rfl, rfl⟩
  clear KS
  go_wp2_with fail
  refine (unhide KM).mono ?_
  rintro e w2 ⟨v, xs, rfl, hl, hw, ho, hg⟩
  have HI := hide (rowI ho rfl)
  have HW := hide hw
  have HL := hide hl
  have HG := hide hg
  clear KM ho hl hw hg
  go_wp2
  go_ret
  have g := unhide HG
  have sz : (w.alloc (srcO A n cap 0 ((n % 1000 : Nat) : Int))).heap.size = w.heap.size + 1 := Array.size_push ..
  refine ⟨_, xs, rfl, unhide HL, unhide HW, (unhide HI).wide (by omega) (Nat.le_refl _), g.os, g.tape, g.output, by have := g.size; omega, fun k hk => ?_⟩
  rw [g.block k (by omega) (by simp; omega), Below.heap_alloc _ _ _ hk]
theorem pmR_ch {cs : List Int} (hl : cs.length ≤ 6) (hc : chB cs = true) : pmR cs = (pOf cs, 0) := by
  rcases chC_cases cs with ⟨_, _⟩ | ⟨_, _, _⟩ | ⟨_, h, _⟩ | ⟨_, _, hg⟩
  · omega
  · omega
  · rw [hc] at h; cases h
  · exact pmR_ok hg
theorem pmC_of {ps : List Int} (h : pOK ps = true) : pmC ps = 0 := by
  rcases pmC_ok (ps := ps) with ⟨hg, _⟩ | ⟨_, ⟨_, h1⟩ | ⟨_, _, h1⟩⟩
  · exact hg
  · have := (pOK_in h).2.1; omega
  · rw [h] at h1; cases h1
theorem chR_ch {cs : List Int} (hl : cs.length ≤ 6) (hc : chB cs = true) : chR (pOf cs) = (cs, 0) := by
  rw [chR_ok (pmC_of (pOf_ok hc (by omega))), pOf_len, Nat.add_sub_cancel, chF_pOf hc]
theorem ivR_ch {cs : List Int} (hl : cs.length ≤ 6) (hc : chB cs = true) : ivR (pOf cs) = (invF (pOf cs) 0 (List.replicate (cs.length + 1) 0), 0) := by
  rw [ivR_ok (pmC_of (pOf_ok hc (by omega))), pOf_len]
theorem ownI.slice {lo hi : Nat} {w : World} {v : Value} {xs : List Int} (h : ownI lo hi w v xs) : ∃ A c, v = .slice A xs.length c := by
  obtain ⟨rfl, rfl⟩ | ⟨g, cap, rest, rfl, _⟩ := h
  · exact ⟨_, _, rfl⟩
  · exact ⟨_, _, rfl⟩
theorem law_perms (w : World) (A : Option Addr) (n cap : Nat) (hn : n ≤ maxLen) (hA : codeAt w A n) :
    Calls Try.prog 3 #[.slice A n cap] w fun e w' => e = .returned (.bool true) ∧ Below w.heap.size w w' := by
  have K1 := hide (choicesOf2 w A n cap hn hA)
  unfold maxLen at hn
  have n0 : (0 : Int) ≤ (n : Int) := by omega
  have n1 : (n : Int) ≤ 9223372036854775807 := by omega
  by_cases h1 : 1048576 < n
  · have q : (1048576 : Int) < (n : Int) := by omega
    clear h1 hn hA K1
    go_enter Try.func3, Try.ntmps3
    go_wp2
    go_ret
    exact ⟨rfl, Below.refl _ _⟩
  have q : (n : Int) ≤ 1048576 := by omega
  clear h1 hn hA
  go_enter Try.func3, Try.ntmps3
  go_wp2_with fail
  refine (unhide K1).mono ?_
  rintro e w1 ⟨v1, cs, rfl, hl, hch, o1, b1⟩
  have B1 := hide b1
  have O1 := hide o1
  have K2 := perm10 v1 cs w1 o1.ints (by omega)
  have K3 : ∀ W, Below w1.heap.size w1 W → _ := fun W hW => perm11 v1 cs W (o1.below hW).ints (by omega)
  rw [pmR_ch hl hch] at K2
  simp only [pmR_ch hl hch] at K3
  have H2 := hide K2
  have H3 := hide K3
  have HCH := hide hch
  have HLL := hide hl
  obtain ⟨A1, c1, rfl⟩ := o1.slice
  clear K1 o1 b1 K2 K3 hch
  have l0 : (cs.length : Int) ≤ 6 := by omega
  have l1 : (0 : Int) ≤ (cs.length : Int) := by omega
  clear hl
  go_wp2_with fail
  refine (unhide H2).mono ?_
  rintro e w2 ⟨v2, rfl, o2, b2⟩
  have HO1 := hide ((unhide O1).below b2)
  have K4 : ∀ W, Below w2.heap.size w2 W → _ := fun W hW => choices12 v2 (pOf cs) W (o2.below hW).ints (by rw [pOf_len]; have := unhide HLL; omega)
  have K5 : ∀ W, Below w2.heap.size w2 W → _ := fun W hW => inv13 v2 (pOf cs) W (o2.below hW).ints (by rw [pOf_len]; have := unhide HLL; omega)
  simp only [chR_ch (unhide HLL) (unhide HCH)] at K4
  simp only [ivR_ch (unhide HLL) (unhide HCH)] at K5
  have H4 := hide K4
  have H5 := hide K5
  obtain ⟨A2, c2, rfl⟩ := o2.slice
  have O2 := hide o2
  have B2 := hide (bl_st b2 (unhide B1))
  have B2' := hide b2
  clear H2 K4 K5 o2 b2 B1 O1
  rw [pOf_len] at *
  go_wp2_with fail
  refine (unhide H3 w2 (unhide B2')).mono ?_
  rintro e w3 ⟨v3, rfl, o3, b3⟩
  have O1_3 := hide ((unhide HO1).below b3)
  have O2_3 := hide ((unhide O2).below b3)
  have B3 := hide (bl_st b3 (unhide B2))
  have B3' := hide b3
  obtain ⟨A3, c3, rfl⟩ := o3.slice
  rw [pOf_len] at o3 ⊢
  have O3 := hide o3
  clear H3 o3 b3 B2 HO1 O2
  go_wp2_with fail
  refine (unhide H4 w3 (unhide B3')).mono ?_
  rintro e w4 ⟨v4, rfl, o4, b4⟩
  have O1_4 := hide ((unhide O1_3).below b4)
  have O2_4 := hide ((unhide O2_3).below b4)
  have O3_4 := hide ((unhide O3).below b4)
  have B4 := hide (bl_st b4 (unhide B3))
  have B4' := hide (bl_st b4 (unhide B3'))
  obtain ⟨A4, c4, rfl⟩ := o4.slice
  have O4 := hide o4
  clear H4 o4 b4 B3 B3' O1_3 O2_3 O3
  go_wp2_with fail
  refine (unhide H5 w4 (unhide B4')).mono ?_
  rintro e w5 ⟨v5, rfl, o5, b5⟩
  have O1_5 := hide ((unhide O1_4).below b5)
  have O2_5 := hide ((unhide O2_4).below b5)
  have O3_5 := hide ((unhide O3_4).below b5)
  have O4_5 := hide ((unhide O4).below b5)
  have B5 := hide (bl_st b5 (unhide B4))
  obtain ⟨A5, c5, rfl⟩ := o5.slice
  have O5 := hide o5
  have HL5 : (invF (pOf cs) 0 (List.replicate (cs.length + 1) 0)).length = cs.length + 1 := by rw [invF_len, List.length_replicate]
  rw [HL5]
  have S1 := hide (same14 _ _ (pOf cs) w5 (unhide O2_5).ints (unhide O3_5).ints (by rw [pOf_len]; have := unhide HLL; omega))
  have S2 : Hid (∀ k, Calls Try.prog 14 #[.slice A4 cs.length c4, .slice A1 cs.length c1] (w5.drewN k) fun e w' => e = .returned (.bool true) ∧ ∃ j, w' = (w5.drewN k).drewN j) := hide fun k => same14 _ _ cs (w5.drewN k) ((unhide O4_5).below (below_drewN (Below.refl _ _) k)).ints ((unhide O1_5).below (below_drewN (Below.refl _ _) k)).ints (by have := unhide HLL; omega)
  rw [HL5] at O5
  have HL5' := hide HL5
  have P1 := hide (fun k hk => pOf_in (unhide HCH) k hk)
  have P2 := hide (fun k hk => inv_pOf (unhide HCH) k hk)
  have HP := hide (pOf_len cs)
  clear H5 o5 b5 B4 B4' O1_4 O2_4 O3_4 O4 O1_5 O3_5 O4_5 HL5
  go_wp2_with fail
  refine (unhide S1).mono ?_
  rintro e w6 ⟨rfl, k6, hw6⟩
  subst hw6
  clear S1
  go_wp2_with fail
  refine (unhide S2 k6).mono ?_
  rintro e w7 ⟨rfl, k7, hw7⟩
  have hw8 : w7 = w5.drewN (k6 + k7) := by rw [hw7]; simp [World.drewN, Nat.add_assoc]
  have B7 : Hid (Below w.heap.size w w7) := hide (by rw [hw8]; exact below_drewN (unhide B5) _)
  have b7 : Below w5.heap.size w5 w7 := by rw [hw8]; exact below_drewN (Below.refl _ _) _
  have O2_7 := hide ((unhide O2_5).below b7).ints
  have O5_7 := hide ((unhide O5).below b7).ints
  clear S2 hw7 hw8 b7 B5 O2_5 O5
  obtain ⟨A2', c2', e2, h2⟩ := unhide O2_7
  obtain ⟨A5', c5', e5, h5⟩ := unhide O5_7
  rw [pOf_len] at e2
  rw [unhide HL5'] at e5
  simp only [Value.slice.injEq] at e2 e5
  obtain ⟨rfl, _, rfl⟩ := e2
  obtain ⟨rfl, _, rfl⟩ := e5
  rw [unhide HP] at h2
  rw [unhide HL5'] at h5
  have H2 := hide (h2 (by omega))
  have H5 := hide (h5 (by omega))
  clear h2 h5 O2_7 O5_7
  obtain ⟨b2, f2, hA2, hb2, hc2⟩ := unhide H2
  obtain ⟨b5, f5, hA5, hb5, hc5⟩ := unhide H5
  subst hA2 hA5
  have C2 := hide hc2
  have C5 := hide hc5
  clear hc2 hc5 hb2 hb5 H2 H5
  generalize invF (pOf cs) 0 (List.replicate (cs.length + 1) 0) = qs at *
  generalize pOf cs = ps at *
  go_wp2
  go_loopw [12] (fun i wr => ∃ (j : Nat), j ≤ cs.length + 1 ∧ i = .int .i64 j ∧ wr = w7) (fun i _ => cs.length + 1 - (intOf i).toNat)
  case atStart => exact ⟨0, by omega, rfl, rfl⟩
  case round =>
    obtain ⟨j, hj, rfl, rfl⟩ := hrel
    by_cases hlt : j < cs.length + 1
    · have q1 : (j : Int) < (cs.length : Int) + 1 := by omega
      have q0 : (0 : Int) ≤ (j : Int) := by omega
      have p0 := unhide C2 j hlt
      obtain ⟨x0, x1⟩ := unhide P1 j hlt
      have hq := unhide P2 j hlt
      obtain ⟨m, hm⟩ : ∃ m : Nat, ps.getD j 0 = (m : Int) := ⟨(ps.getD j 0).toNat, by omega⟩
      rw [hm] at p0 x0 x1 hq
      rw [Int.toNat_natCast] at hq
      have p1 := unhide C5 m (by omega)
      rw [hq] at p1
      have x2 : (m : Int) < (cs.length : Int) + 1 := by omega
      have HJ := hide hlt
      clear hlt hj hq hm x1
      go_wp2
      go_roundw
      case rel => exact ⟨j + 1, unhide HJ, by go_num, by first | rfl | trivial⟩
      case measure => have := unhide HJ; simp [intOf]; omega
    · obtain rfl : j = cs.length + 1 := by omega
      go_wp2
      go_ret
      exact ⟨rfl, unhide B7⟩
end Go.Proofs.Ytfodcnnaeakhfaa
