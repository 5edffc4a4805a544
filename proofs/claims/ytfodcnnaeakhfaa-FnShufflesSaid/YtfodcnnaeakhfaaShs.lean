/- ShuffleOf, both sides, and the law of it, walked. -/
import Derived.Test.YtfodcnnaeakhfaaShf
import Derived.Test.YtfodcnnaeakhfaaMki
import Derived.Deep.AppendLies
namespace Go.Proofs.Ytfodcnnaeakhfaa
open Go.RowKit
set_option maxHeartbeats 4000000
set_option maxRecDepth 20000
def shD (o : Option (List Int × Nat)) : List Int × Int × Int := match o with
  | some r => (pOf r.1, (r.2 : Int), 0)
  | none => ([], 0, 14)
def shR (xs : List Int) (n : Int) : List Int × Int × Int :=
  if wCode xs = 0 then (if 1 ≤ n ∧ n ≤ 16 then shD (drF (n - 1).toNat xs) else ([], 0, 4)) else ([], 0, wCode xs)
theorem shR_code {xs : List Int} {n c : Int} (h : wCode xs = c) (hc : c ≠ 0) : shR xs n = ([], 0, c) := by unfold shR; rw [h, if_neg hc]
theorem shR_range {xs : List Int} {n : Int} (h : wCode xs = 0) (hn : ¬ (1 ≤ n ∧ n ≤ 16)) : shR xs n = ([], 0, 4) := by unfold shR; rw [if_pos h, if_neg hn]
theorem shR_ok {xs : List Int} {N : Nat} (h : wCode xs = 0) (hn : N ≤ 15) : shR xs ((N : Int) + 1) = shD (drF N xs) := by
  unfold shR; rw [if_pos h, if_pos (by omega), show ((N : Int) + 1 - 1).toNat = N by omega]
/-- an answer of ints, a number and a code -/
def outJ (W : World) (xs : List Int) (t c : Int) (e : Ending) (w' : World) : Prop := ∃ r, e = .returned (.tuple #[r, .int .i64 t, .int .i64 c]) ∧ ownI W.heap.size w'.heap.size w' r xs ∧ Below W.heap.size W w'
theorem wCode_cases (xs : List Int) : (4096 < xs.length ∧ wCode xs = 2) ∨ (xs.length ≤ 4096 ∧ wOK xs = false ∧ wCode xs = 1) ∨ (xs.length ≤ 4096 ∧ wOK xs = true ∧ wCode xs = 0) := by
  unfold wCode
  by_cases h1 : 4096 < xs.length
  · exact .inl ⟨h1, by rw [if_pos h1]⟩
  · cases hb : wOK xs
    · exact .inr (.inl ⟨by omega, rfl, by rw [if_neg h1]; rfl⟩)
    · exact .inr (.inr ⟨by omega, rfl, by rw [if_neg h1]; rfl⟩)
theorem shuffle17 (v : Value) (xs : List Int) (n : Int) (w : World) (hv : intsC w v xs) (hn : xs.length ≤ 1048576) : Calls Try.prog 17 #[v, .int .i64 n] w fun e w' => outJ w (shR xs n).1 (shR xs n).2.1 (shR xs n).2.2 e w' := by
  have K1 := hide (code14 v xs w hv.1 (by omega))
  have K2 := hide (fun hk N hN => shuffled36 v xs w hv hk N hN)
  obtain ⟨A, cap, rfl, _⟩ := hv.2
  clear hv
  have hcase : (wCode xs ≠ 0) ∨ (wCode xs = 0 ∧ wOK xs = true) := by
    rcases wCode_cases xs with ⟨_, h⟩ | ⟨_, _, h⟩ | ⟨_, h1, h⟩
    · exact .inl (by omega)
    · exact .inl (by omega)
    · exact .inr ⟨h, h1⟩
  rcases hcase with hne | ⟨hg, hk⟩
  · rw [shR_code rfl hne]
    have h0 : (wCode xs != 0) = true := by simpa using hne
    clear hn hne K2
    generalize wCode xs = c at *
    go_enter Try.func17, Try.ntmps17
    go_wp2_with fail
    refine (unhide K1).mono ?_
    rintro e w' ⟨rfl, hw'⟩
    have hw2 := hw'.symm
    subst hw2
    clear K1
    go_wp2
    go_ret3
    exact ⟨_, rfl, .inl ⟨rfl, rfl⟩, Below.refl _ _⟩
  by_cases hr : 1 ≤ n ∧ n ≤ 16
  · obtain ⟨N, rfl⟩ : ∃ N : Nat, n = (N : Int) + 1 := ⟨(n - 1).toNat, by omega⟩
    rw [shR_ok hg (by omega)]
    rw [hg] at K1
    have K3 := hide (unhide K2 hk N (by omega))
    have r1 : (1 : Int) ≤ (N : Int) + 1 := by omega
    have r2 : (N : Int) + 1 ≤ 16 := by omega
    clear hn hg hk K2 hr
    go_enter Try.func17, Try.ntmps17
    go_wp2_with fail
    refine (unhide K1).mono ?_
    rintro e w' ⟨rfl, hw'⟩
    have hw2 := hw'.symm
    subst hw2
    clear K1
    go_wp2_with fail
    refine (unhide K3).mono ?_
    rintro e w1 ⟨u, t, c, rfl, hb, hend⟩
    have HB := hide hb
    have HE := hide hend
    clear K3 hb hend
    go_wp2
    go_ret3
    rcases unhide HE with ⟨cs, k, h1, rfl, rfl, ho⟩ | ⟨h1, rfl, rfl, rfl⟩
    · rw [h1]; exact ⟨_, rfl, ho, unhide HB⟩
    · rw [h1]; exact ⟨_, rfl, .inl ⟨rfl, rfl⟩, unhide HB⟩
  · rw [shR_range hg hr]
    rw [hg] at K1
    clear hn hg hk K2
    by_cases h1 : n < 1
    · clear hr
      go_enter Try.func17, Try.ntmps17
      go_wp2_with fail
      refine (unhide K1).mono ?_
      rintro e w' ⟨rfl, hw'⟩
      have hw2 := hw'.symm
      subst hw2
      clear K1
      go_wp2
      go_ret3
      exact ⟨_, rfl, .inl ⟨rfl, rfl⟩, Below.refl _ _⟩
    · have h2 : 1 ≤ n := by omega
      have h3 : 16 < n := by omega
      clear hr h1
      go_enter Try.func17, Try.ntmps17
      go_wp2_with fail
      refine (unhide K1).mono ?_
      rintro e w' ⟨rfl, hw'⟩
      have hw2 := hw'.symm
      subst hw2
      clear K1
      go_wp2
      go_ret3
      exact ⟨_, rfl, .inl ⟨rfl, rfl⟩, Below.refl _ _⟩
def spEnd (N : Nat) (xs : List Int) (w w' : World) (u : Value) (t : Int) (ok : Bool) : Prop :=
  (∃ cs k, drF N xs = some (cs, k) ∧ t = (k : Int) ∧ ok = true ∧ ownI w.heap.size w'.heap.size w' u (pOf cs)) ∨ (drF N xs = none ∧ ok = false)
theorem shuffle39 (v : Value) (xs : List Int) (w : World) (hv : intsC w v xs) (hk : wOK xs = true) (N : Nat) (hN : N ≤ 15) :
    Calls Try.prog 39 #[v, .int .i64 ((N : Int) + 1)] w fun e w' => ∃ u t ok, e = .returned (.tuple #[u, .int .i64 t, .bool ok]) ∧ Below w.heap.size w w' ∧ spEnd N xs w w' u t ok := by
  obtain ⟨i0, hi0, hz0, hz1, hz2⟩ := info_parts info3b
  have HK := hide hk
  have HV := hide hv
  obtain ⟨A, cap, rfl, hcap⟩ := hv.2
  have HN := hide hN
  have N1 : (N : Int) ≤ 15 := by omega
  have N0 : (0 : Int) ≤ (N : Int) := by omega
  clear hk hv hcap
  have HL := hide (wOK_len (unhide HK))
  have l1 : (xs.length : Int) ≤ 2000 := by have := unhide HL; omega
  go_enter Try.func39, Try.ntmps39
  go_wp2
  go_loopw [7, 8, 9] (fun o t s wr => ∃ (i k : Nat) (cs : List Int), i ≤ N ∧ s = .int .i64 i ∧ t = .int .i64 k ∧ wr.ownsRow w.heap.size 3 1 o cs.length (cs.map (Value.int .i64)) ∧ Below w.heap.size w wr ∧ k ≤ xs.length ∧ cs.length + i = N ∧
    (drF i (xs.drop k)).map (fun r => (cs ++ r.1, k + r.2)) = drF N xs) (fun _ _ s _ => (intOf s).toNat)
  case atStart =>
    refine ⟨N, 0, [], by omega, by go_num, rfl, World.ownsRow_made w #[] 0 (Nat.le_refl _) (Nat.zero_le _) rfl, bl_al (Below.refl _ _), by omega, by simp, ?_⟩
    simp
  case round =>
    obtain ⟨i, k, cs, hi, rfl, rfl, hown, hbl, hkl, hcl, hd⟩ := hrel
    have q2 : (k : Int) ≤ (xs.length : Int) := by omega
    have q3 : (0 : Int) ≤ (k : Int) := by omega
    cases i with
    | zero =>
      rw [drF, Option.map_some, List.append_nil, Nat.add_zero] at hd
      obtain ⟨hl2, hch, _⟩ := drF_ok _ _ _ _ hd.symm
      have hoi := rowI hown rfl
      have hslice : ∃ A n c, u7 = .slice A n c := by
        rcases hoi with ⟨rfl, _⟩ | ⟨g, c, rest, rfl, _⟩
        · exact ⟨_, _, _, rfl⟩
        · exact ⟨_, _, _, rfl⟩
      have K1 := hide (perm30 _ cs wr hoi.ints (by omega) hch)
      obtain ⟨A1, n1, c1, rfl⟩ := hslice
      have HE := hide hd.symm
      have HB0 := hide hbl
      clear hown hbl hkl hcl hd hi hch hl2 hoi
      go_wp2_with fail
      refine (unhide K1).mono ?_
      rintro e w2 ⟨r, rfl, ho, hb⟩
      have HO := hide ho
      have HB := hide hb
      clear K1 ho hb
      go_wp2
      go_ret3
      exact ⟨_, _, _, rfl, bl_st (unhide HB) (unhide HB0), .inl ⟨cs, k, unhide HE, rfl, rfl, (unhide HO).wide (unhide HB0).size (Nat.le_refl _)⟩⟩
    | succ m =>
      have q1 : (0 : Int) < ((m + 1 : Nat) : Int) := by omega
      have q4 : ((m + 1 : Nat) : Int) ≤ 15 := by omega
      have e1 : ((m + 1 : Nat) : Int) + 1 = ((m + 2 : Nat) : Int) := by omega
      obtain ⟨A', hs, hiC⟩ := cut_ints (unhide HV) k hkl
      have s1 := hs wr
      have K : Hid (Calls Try.prog 48 #[.slice A' (xs.length - k) (cap - k), .int .i64 ((m + 2 : Nat) : Int)] wr fun e w' => e = .returned (uV (uT (m + 2) (xs.drop k))) ∧ w' = wr) := hide (uni13 _ (xs.drop k) ((m + 2 : Nat) : Int) wr (hiC.1.below hbl) (wOK_drop (unhide HK) k) (by omega) (by omega))
      clear hs hiC
      rcases uT_cases (m + 2) (by omega) (xs.drop k) with ⟨t, hu2, ht⟩ | ⟨x, t, hx, ht, hu2⟩
      · rw [hu2] at K
        rw [List.length_drop] at ht
        have HE : Hid (drF N xs = none) := hide (by rw [← hd, drF_none hu2]; rfl)
        have HB := hide hbl
        have t0 : (0 : Int) ≤ (t : Int) := by omega
        have t1 : (t : Int) ≤ 2000 := by have := unhide HL; omega
        obtain ⟨M, hM⟩ : ∃ M : Int, ((m + 2 : Nat) : Int) = M := ⟨_, rfl⟩
        obtain ⟨M1, hM1⟩ : ∃ M : Int, ((m + 1 : Nat) : Int) = M := ⟨_, rfl⟩
        rw [hM] at K e1
        rw [hM1] at e1 q1 q4 ⊢
        clear hown hbl hd hu2 hkl hcl hi hM hM1 ht
        go_wp2_with fail
        refine (unhide K).mono ?_
        rintro e w' ⟨rfl, hw'⟩
        have hw2 := hw'.symm
        subst hw2
        clear K
        clear s1
        go_wp2
        go_ret3
        exact ⟨_, _, _, rfl, bl_al (unhide HB), .inr ⟨unhide HE, rfl⟩⟩
      · rw [hu2] at K
        rw [List.length_drop] at ht
        have HD : Hid ((drF m (xs.drop (k + t))).map (fun r => ((cs ++ [(x : Int)]) ++ r.1, k + t + r.2)) = drF N xs) := hide (by
          rw [← hd, drF_some hu2, Option.map_map, List.drop_drop]
          congr 1
          funext r
          simp only [Function.comp]
          rw [List.append_assoc]
          simp [Nat.add_assoc])
        have HT : Hid (k + t ≤ xs.length) := hide (by omega)
        have HC : Hid (cs.length + (m + 1) = N ∧ m ≤ N) := hide ⟨hcl, by omega⟩
        have t0 : (0 : Int) ≤ (t : Int) := by omega
        have t1 : (t : Int) ≤ 2000 := by have := unhide HL; omega
        have cb : cs.length ≤ 16 := by omega
        have x0 : (0 : Int) ≤ (x : Int) := by omega
        obtain ⟨M, hM⟩ : ∃ M : Int, ((m + 2 : Nat) : Int) = M := ⟨_, rfl⟩
        obtain ⟨M1, hM1⟩ : ∃ M : Int, ((m + 1 : Nat) : Int) = M := ⟨_, rfl⟩
        have HM1 := hide hM1
        rw [hM] at K e1
        rw [hM1] at e1 q1 q4 ⊢
        clear hd hu2 hkl hcl hi hM hM1 ht hx
        go_wp2_with fail
        refine (unhide K).mono ?_
        rintro e w' ⟨rfl, hw'⟩
        have hw2 := hw'.symm
        subst hw2
        clear K
        clear s1
        go_wp2_with (at_builtin; refine wpList_append_lies _ rfl _ _ 23 rfl (w.heap.size) 3 i0 (.int .i64 0) 1 8 Try.underlying23 hi0 hz0 hz1 hz2 rfl (by omega) u7 cs.length (cs.map (Value.int .i64)) rfl (hown.alloc _) ⟨wr.heap.size, 0, none⟩ 1 1 [.int .i64 (x : Int)] rfl rfl (World.news_of_block (cs := #[.int .i64 (x : Int)]) (t := 3) (fr := (0, 0)) (heap_alloc_new wr _)) (by simp [Value.oneCell']) (by omega) (by unfold maxLen; omega) (by omega) (by have := hbl.size; simp; omega) (wr.heap.size + 1) (by simp) ?_; intro gg cp w3 hown3 hgrow3 hat hltg)
        have HB3 := hide ((bl_al hbl).grown hgrow3 (bl_al hbl).size fun k hk => (hown.lt k hk).1)
        have HO3 : Hid (w3.ownsRow w.heap.size 3 1 (.slice (some ⟨gg, 0, none⟩) (cs.length + 1) cp) (cs ++ [(x : Int)]).length ((cs ++ [(x : Int)]).map (Value.int .i64))) := hide (by rw [List.map_append, List.length_append]; exact hown3)
        clear hown hbl hown3 hgrow3 hat hltg
        go_wp2
        go_roundw
        case rel => exact ⟨m, k + t, cs ++ [(x : Int)], (unhide HC).2, by have := unhide HM1; go_num, by go_num, unhide HO3, unhide HB3, unhide HT, by have := unhide HC; rw [List.length_append, List.length_singleton]; omega, unhide HD⟩
        case measure => have := unhide HM1; simp [intOf]; omega
theorem shuffle18 (v : Value) (xs : List Int) (n : Int) (w : World) (hv : intsC w v xs) (hn : xs.length ≤ 1048576) : Calls Try.prog 18 #[v, .int .i64 n] w fun e w' => outJ w (shR xs n).1 (shR xs n).2.1 (shR xs n).2.2 e w' := by
  have K1 := hide (words11 v xs w hv.1 (by omega))
  have K2 := hide (fun W => in19 n 1 16 W)
  have K3 := hide (fun hk N hN => shuffle39 v xs w hv hk N hN)
  obtain ⟨A, cap, rfl, _⟩ := hv.2
  clear hv
  have n0 : (0 : Int) ≤ (xs.length : Int) := by omega
  have n1 : (xs.length : Int) ≤ 1048576 := by omega
  rcases wCode_cases xs with ⟨h1, hg⟩ | ⟨h1, hk, hg⟩ | ⟨h1, hk, hg⟩
  · rw [shR_code hg (by omega)]
    have q : (4096 : Int) < (xs.length : Int) := by omega
    clear hn hg h1 K1 K2 K3
    go_enter Try.func18, Try.ntmps18
    go_wp2
    go_ret3
    exact ⟨_, rfl, empty_own w, bl_al (Below.refl _ _)⟩
  · rw [shR_code hg (by omega)]
    have q : (xs.length : Int) ≤ 4096 := by omega
    rw [hk] at K1
    clear hn hg h1 hk K2 K3
    go_enter Try.func18, Try.ntmps18
    go_wp2_with fail
    refine (unhide K1).mono ?_
    rintro e w' ⟨rfl, hw'⟩
    have hw2 := hw'.symm
    subst hw2
    clear K1
    go_wp2
    go_ret3
    exact ⟨_, rfl, empty_own w, bl_al (Below.refl _ _)⟩
  have q : (xs.length : Int) ≤ 4096 := by omega
  rw [hk] at K1
  by_cases hr : 1 ≤ n ∧ n ≤ 16
  · rw [show (decide (1 ≤ n) && decide (n ≤ 16)) = true by simp; omega] at K2
    obtain ⟨N, rfl⟩ : ∃ N : Nat, n = (N : Int) + 1 := ⟨(n - 1).toNat, by omega⟩
    rw [shR_ok hg (by omega)]
    have K4 := hide (unhide K3 hk N (by omega))
    clear hn hg hk K3 hr h1
    go_enter Try.func18, Try.ntmps18
    go_wp2_with fail
    refine (unhide K1).mono ?_
    rintro e w' ⟨rfl, hw'⟩
    have hw2 := hw'.symm
    subst hw2
    clear K1
    go_wp2_with fail
    refine (unhide K2 _).mono ?_
    rintro e w' ⟨rfl, hw'⟩
    have hw2 := hw'.symm
    subst hw2
    clear K2
    go_wp2_with fail
    refine (unhide K4).mono ?_
    rintro e w1 ⟨u, t, ok, rfl, hb, hend⟩
    have HB := hide hb
    have HE := hide hend
    clear K4 hb hend
    cases ok
    · go_wp2
      go_ret3
      rcases unhide HE with ⟨cs, k, h1, rfl, h0, ho⟩ | ⟨h1, _⟩
      · cases h0
      · rw [h1]; exact ⟨_, rfl, (empty_own w1).wide (unhide HB).size (Nat.le_refl _), bl_al (unhide HB)⟩
    · go_wp2
      go_ret3
      rcases unhide HE with ⟨cs, k, h1, rfl, _, ho⟩ | ⟨h1, h0⟩
      · rw [h1]; exact ⟨_, rfl, ho, unhide HB⟩
      · cases h0
  · rw [shR_range hg hr]
    rw [show (decide (1 ≤ n) && decide (n ≤ 16)) = false by rw [Bool.eq_false_iff]; simp; omega] at K2
    clear hn hg hk K3 hr h1
    go_enter Try.func18, Try.ntmps18
    go_wp2_with fail
    refine (unhide K1).mono ?_
    rintro e w' ⟨rfl, hw'⟩
    have hw2 := hw'.symm
    subst hw2
    clear K1
    go_wp2_with fail
    refine (unhide K2 _).mono ?_
    rintro e w' ⟨rfl, hw'⟩
    have hw2 := hw'.symm
    subst hw2
    clear K2
    go_wp2
    go_ret3
    exact ⟨_, rfl, empty_own w, bl_al (Below.refl _ _)⟩
theorem shR_len (xs : List Int) (n : Int) : (shR xs n).1.length ≤ 16 := by
  unfold shR
  split
  · split
    · rename_i hr
      cases hd : drF (n - 1).toNat xs with
      | none => exact Nat.zero_le _
      | some r =>
        obtain ⟨cs, k⟩ := r
        have := (drF_ok _ _ _ _ hd).1
        show (pOf cs).length ≤ 16
        rw [pOf_len]; omega
    · exact Nat.zero_le _
  · exact Nat.zero_le _
theorem law_shu (w : World) (v : Value) (xs : List Int) (hv : intsV w v xs) (hl : xs.length ≤ maxLen) (n : Int) :
    Calls Try.prog 8 #[v, .int .i64 n] w fun e w' => e = .returned (.bool true) ∧ Below w.heap.size w w' := by
  have HV := hide hv
  obtain ⟨A, cap, rfl, hc⟩ := hv
  clear hc
  unfold maxLen at hl
  have n0 : (0 : Int) ≤ (xs.length : Int) := by omega
  have n1 : (xs.length : Int) ≤ 9223372036854775807 := by omega
  by_cases h1 : 1048576 < xs.length
  · have q : (1048576 : Int) < (xs.length : Int) := by omega
    clear h1 hl HV
    go_enter Try.func8, Try.ntmps8
    go_wp2
    go_ret
    exact ⟨rfl, Below.refl _ _⟩
  have q : (xs.length : Int) ≤ 1048576 := by omega
  have HN := hide (show xs.length ≤ 1048576 by omega)
  clear h1 hl
  have HTO : Hid (∀ u W, intsV W u xs → Calls Try.prog 19 #[u] W fun e w' => ∃ r, e = .returned r ∧ ownI W.heap.size w'.heap.size w' r xs ∧ Below W.heap.size W w') := hide fun u W hu => to6 u xs W hu (by have := unhide HN; omega)
  have HSP : Hid (∀ u W, intsC W u xs → Calls Try.prog 18 #[u, .int .i64 n] W fun e w' => outJ W (shR xs n).1 (shR xs n).2.1 (shR xs n).2.2 e w') := hide fun u W hu => shuffle18 u xs n W hu (unhide HN)
  have HIM : Hid (∀ u W, intsC W u xs → Calls Try.prog 17 #[u, .int .i64 n] W fun e w' => outJ W (shR xs n).1 (shR xs n).2.1 (shR xs n).2.2 e w') := hide fun u W hu => shuffle17 u xs n W hu (unhide HN)
  have HLN := hide (shR_len xs n)
  generalize shR xs n = rr at *
  obtain ⟨ys, t, c⟩ := rr
  dsimp only at *
  have HEX : Hid (∀ u u' W, intsV W u xs → intsV W u' xs → Calls Try.prog 20 #[u, u'] W fun e w' => e = .returned (.bool true) ∧ ∃ k, w' = W.drewN k) := hide fun u u' W hu hu' => eq8 u u' xs W hu hu' (by have := unhide HN; omega)
  have HEY : Hid (∀ u u' W, intsV W u ys → intsV W u' ys → Calls Try.prog 20 #[u, u'] W fun e w' => e = .returned (.bool true) ∧ ∃ k, w' = W.drewN k) := hide fun u u' W hu hu' => eq8 u u' ys W hu hu' (by have := unhide HLN; omega)
  have HMX : Hid (∀ lo hi u W, ownI lo hi W u xs → Calls Try.prog 21 #[u, .int .i64 1] W fun e w' => e = .returned (.int .i64 (1 + (xs.length : Int))) ∧ ownI lo hi w' u (marksI 1 xs.length) ∧ TouchS u W w') := hide fun lo hi u W hu => mark21 lo hi u xs 1 W hu (by have := unhide HN; omega) (by omega)
  have HMY : Hid (∀ lo hi u W, ownI lo hi W u ys → Calls Try.prog 21 #[u, .int .i64 1] W fun e w' => e = .returned (.int .i64 (1 + (ys.length : Int))) ∧ ownI lo hi w' u (marksI 1 ys.length) ∧ TouchS u W w') := hide fun lo hi u W hu => mark21 lo hi u ys 1 W hu (by have := unhide HLN; omega) (by omega)
  have HHY : Hid (∀ u W, intsV W u (marksI 1 ys.length) → Calls Try.prog 22 #[u, .int .i64 1] W fun e w' => e = .returned (.int .i64 (1 + (ys.length : Int))) ∧ w' = W) := hide fun u W hu => held22 u 1 ys.length W hu (by have := unhide HLN; omega) (by omega)
  have y0 : (0 : Int) ≤ (ys.length : Int) := by omega
  go_enter Try.func8, Try.ntmps8
  go_wp2_with fail
  refine (unhide HTO _ w (unhide HV)).mono ?_
  rintro e w2 ⟨u1, rfl, o2, b2⟩
  have B2 := hide b2
  have U2 := hide o2.intsC
  have Z2 := hide b2.size
  clear o2 b2
  go_wp2_with fail
  refine (unhide HSP _ w2 (unhide U2)).mono ?_
  rintro e w3 ⟨r3, rfl, o3, b3⟩
  have B3 := hide (bl_st b3 (unhide B2))
  have W3 := hide o3
  have Z3 := hide b3.size
  clear U2 b3 o3 B2
  go_wp2_with fail
  refine (unhide HTO _ w3 ((unhide HV).below (unhide B3))).mono ?_
  rintro e w4 ⟨u, rfl, o4, b4⟩
  have B4 := hide (bl_st b4 (unhide B3))
  have X4 := hide o4
  have W4 := hide ((unhide W3).below b4)
  have Z4 := hide b4.size
  clear o4 b4 B3 W3
  go_wp2_with fail
  refine (unhide HIM _ w4 (unhide X4).intsC).mono ?_
  rintro e w5 ⟨r5, rfl, o5, b5⟩
  have B5 := hide (bl_st b5 (unhide B4))
  have X5 := hide ((unhide X4).below b5)
  have W5 := hide ((unhide W4).below b5)
  have G5 := hide o5
  have Z5 := hide b5.size
  clear b5 B4 X4 W4 o5
  go_wp2_with fail
  refine (unhide HEY _ _ w5 (unhide G5).ints (unhide W5).ints).mono ?_
  rintro e w6 ⟨rfl, k6, hw6⟩
  have b6 : Below w5.heap.size w5 w6 := by rw [hw6]; exact below_drewN (Below.refl _ _) k6
  have B6 := hide (bl_st b6 (unhide B5))
  have X6 := hide ((unhide X5).below b6)
  have W6 := hide ((unhide W5).below b6)
  have G6 := hide ((unhide G5).below b6)
  have Z6 := hide b6.size
  clear b6 B5 X5 W5 G5 hw6
  go_wp2_with fail
  refine (unhide HTO _ w6 ((unhide HV).below (unhide B6))).mono ?_
  rintro e w7 ⟨u7, rfl, o7, b7⟩
  have B7 := hide (bl_st b7 (unhide B6))
  have X7 := hide ((unhide X6).below b7)
  have W7 := hide ((unhide W6).below b7)
  have G7 := hide ((unhide G6).below b7)
  have U7 := hide o7.ints
  have Z7 := hide b7.size
  clear b7 B6 X6 W6 G6 o7
  go_wp2_with fail
  refine (unhide HEX _ _ w7 (unhide X7).ints (unhide U7)).mono ?_
  rintro e w8 ⟨rfl, k8, hw8⟩
  have b8 : Below w7.heap.size w7 w8 := by rw [hw8]; exact below_drewN (Below.refl _ _) k8
  have B8 := hide (bl_st b8 (unhide B7))
  have X8 := hide ((unhide X7).below b8)
  have W8 := hide ((unhide W7).below b8)
  have G8 := hide ((unhide G7).below b8)
  have Z8 := hide b8.size
  clear b8 B7 X7 W7 G7 U7 hw8
  go_wp2_with fail
  refine (unhide HMX _ _ _ w8 (unhide X8)).mono ?_
  rintro e w9 ⟨rfl, _, t9⟩
  have B9 := hide (belowS (unhide B8) t9 (unhide X8).lies (by have := unhide Z2; have := unhide Z3; omega) (unhide B8).size)
  have W9 := hide ((unhide W8).touchS t9 fun g h1 h2 => by have := (unhide W8).lies g h1; have := (unhide X8).lies g h2; omega)
  have G9 := hide ((unhide G8).touchS t9 fun g h1 h2 => by have := (unhide G8).lies g h1; have := (unhide X8).lies g h2; omega)
  have Z9 := hide t9.size
  clear t9 B8 X8 W8 G8
  go_wp2_with fail
  refine (unhide HEY _ _ w9 (unhide G9).ints (unhide W9).ints).mono ?_
  rintro e w10 ⟨rfl, k10, hw10⟩
  have b10 : Below w9.heap.size w9 w10 := by rw [hw10]; exact below_drewN (Below.refl _ _) k10
  have B10 := hide (bl_st b10 (unhide B9))
  have W10 := hide ((unhide W9).below b10)
  have G10 := hide ((unhide G9).below b10)
  have Z10 := hide b10.size
  clear b10 B9 W9 G9 hw10
  go_wp2_with fail
  refine (unhide HMY _ _ _ w10 (unhide G10)).mono ?_
  rintro e w11 ⟨rfl, o11, t11⟩
  have B11 := hide (belowS (unhide B10) t11 (unhide G10).lies (by have := unhide Z2; have := unhide Z3; have := unhide Z4; omega) (unhide B10).size)
  have W11 := hide ((unhide W10).touchS t11 fun g h1 h2 => by have := (unhide W10).lies g h1; have := (unhide G10).lies g h2; have := unhide Z4; omega)
  have G11 := hide o11
  clear t11 o11 B10 W10 G10
  go_wp2_with fail
  refine (unhide HHY _ w11 (unhide G11).ints).mono ?_
  rintro e w12 ⟨rfl, hw12⟩
  have hw13 := hw12.symm
  subst hw13
  go_wp2_with fail
  refine (unhide HTO _ w11 ((unhide HV).below (unhide B11))).mono ?_
  rintro e w14 ⟨u14, rfl, o14, b14⟩
  have B14 := hide (bl_st b14 (unhide B11))
  have W14 := hide ((unhide W11).below b14)
  have G14 := hide ((unhide G11).below b14)
  have U14 := hide o14.intsC
  clear b14 B11 W11 G11 o14
  go_wp2_with fail
  refine (unhide HIM _ w14 (unhide U14)).mono ?_
  rintro e w15 ⟨r15, rfl, o15, b15⟩
  have B15 := hide (bl_st b15 (unhide B14))
  have W15 := hide ((unhide W14).below b15)
  have G15 := hide ((unhide G14).below b15)
  have H15 := hide o15.ints
  clear b15 B14 W14 G14 o15 U14
  go_wp2_with fail
  refine (unhide HEY _ _ w15 (unhide H15) (unhide W15).ints).mono ?_
  rintro e w16 ⟨rfl, k16, hw16⟩
  have b16 : Below w15.heap.size w15 w16 := by rw [hw16]; exact below_drewN (Below.refl _ _) k16
  have B16 := hide (bl_st b16 (unhide B15))
  have G16 := hide ((unhide G15).below b16)
  clear b16 B15 W15 G15 H15 hw16
  go_wp2_with fail
  refine (unhide HHY _ w16 (unhide G16).ints).mono ?_
  rintro e w17 ⟨rfl, hw17⟩
  have hw18 := hw17.symm
  subst hw18
  go_wp2
  go_ret
  exact ⟨rfl, unhide B16⟩
end Go.Proofs.Ytfodcnnaeakhfaa
