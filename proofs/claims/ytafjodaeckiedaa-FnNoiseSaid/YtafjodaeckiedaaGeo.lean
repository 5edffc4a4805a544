/- Counts: the specification's side; GeometricOf, both sides. -/
import Derived.Test.YtafjodaeckiedaaCou
import Derived.Test.YtafjodaeckiedaaCnu
import Derived.Test.YtafjodaeckiedaaWei
namespace Go.Proofs.Ytafjodaeckiedaa
open Go.RowKit
set_option maxHeartbeats 4000000
set_option maxRecDepth 20000
abbrev tV (r : Int × Int × Int) : Value := .tuple #[.int .i64 r.1, .int .i64 r.2.1, .int .i64 r.2.2]
theorem geo45 (v : Value) (xs : List Int) (w : World) (hv : intsC w v xs) (hk : wOK xs = true) (a b : Int) (h1 : 1 ≤ a) (h2 : a < b) (h3 : b ≤ 16) :
    Calls Try.prog 45 #[v, .int .i64 a, .int .i64 b] w fun e w' => e = .returned (uV (gF (65536 - 65536 % b) a b xs 0 0)) ∧ w' = w := by
  obtain ⟨top, ht⟩ : ∃ top, top = 65536 - 65536 % b := ⟨_, rfl⟩
  rw [← ht]
  have HT := hide ht
  have HK := hide hk
  have HV := hide hv
  obtain ⟨A, cap, rfl, hcap⟩ := hv.2
  have HL := hide (wOK_len hk)
  have n1 : (xs.length : Int) ≤ 2000 := by have := wOK_len hk; omega
  clear ht hk hv hcap
  go_enter Try.func45, Try.ntmps45
  go_wp2
  go_loopg [9, 10] (xs.length) (fun q s9 s10 wr => ∃ (k c : Nat), k + q = xs.length ∧ s9 = .int .i64 (c : Int) ∧ s10 = .int .i64 (k : Int) ∧ c ≤ k ∧ gF top a b (xs.drop k) k c = gF top a b xs 0 0 ∧ wr = w)
  case atStart => exact ⟨0, 0, by omega, rfl, rfl, Nat.le_refl _, rfl, rfl⟩
  case round =>
    obtain ⟨k, c, hkq, rfl, rfl, hck, hg, rfl⟩ := hrel
    have hkl : k ≤ xs.length := by omega
    obtain ⟨A', hs, hi⟩ := cut_ints (unhide HV) k hkl
    have s1 := hs wr
    have K := hide (uni13 _ (xs.drop k) b wr hi.1 (wOK_drop (unhide HK) k) (by omega) (by omega))
    rw [← unhide HT] at K
    have k0 : (0 : Int) ≤ (k : Int) := by omega
    have k1 : (k : Int) ≤ 2000 := by have := unhide HL; omega
    have c0 : (0 : Int) ≤ (c : Int) := by omega
    have c1 : (c : Int) ≤ 2000 := by have := unhide HL; omega
    clear hs hi
    rcases gF_u (top := top) (a := a) (b := b) (xs.drop k) 0 with ⟨_, m, _, hm, huF, hgF⟩ | ⟨x, m, hm1, hm2, _, huF, hgF⟩
    · rw [huF, Int.zero_add] at K
      have HE : Hid (gF top a b xs 0 0 = (0, (k : Int) + m, false)) := hide (by rw [← hg, hgF])
      have m0 : (0 : Int) ≤ (m : Int) := by omega
      have m1 : (m : Int) ≤ 2000 := by rw [List.length_drop] at hm; have := unhide HL; omega
      clear hg hgF huF hm hkq hck hkl
      go_wp2_with fail
      refine (unhide K).mono ?_
      rintro e w' ⟨rfl, hw'⟩
      have hw2 := hw'.symm
      subst hw2
      clear K
      clear s1
      go_wp2
      go_ret3
      exact ⟨by rw [unhide HE]; rfl, rfl⟩
    · rw [huF, Int.zero_add] at K
      rw [List.length_drop] at hm2
      have m0 : (0 : Int) ≤ (m : Int) := by omega
      have m1 : (m : Int) ≤ 2000 := by have := unhide HL; omega
      by_cases hxa : a ≤ x
      · have HE : Hid (gF top a b xs 0 0 = ((c : Int), (k : Int) + m, true)) := hide (by rw [← hg, hgF, if_pos hxa])
        clear hg hgF huF hm1 hm2 hkq hck hkl
        go_wp2_with fail
        refine (unhide K).mono ?_
        rintro e w' ⟨rfl, hw'⟩
        have hw2 := hw'.symm
        subst hw2
        clear K
        clear s1
        go_wp2
        go_ret3
        exact ⟨by rw [unhide HE]; rfl, rfl⟩
      · have hxa' : x < a := by omega
        have HG : Hid (gF top a b (xs.drop (k + m)) ((k + m : Nat) : Int) ((c + 1 : Nat) : Int) = gF top a b xs 0 0) := hide (by
          rw [← hg, hgF, if_neg hxa, List.drop_drop]; simp)
        have HM : Hid (1 ≤ m ∧ m ≤ xs.length - k ∧ k ≤ xs.length ∧ c ≤ k ∧ k + gk = xs.length) := hide ⟨hm1, hm2, hkl, hck, hkq⟩
        clear hg hgF huF hm1 hm2 hkq hck hkl hxa
        go_wp2_with fail
        refine (unhide K).mono ?_
        rintro e w' ⟨rfl, hw'⟩
        have hw2 := hw'.symm
        subst hw2
        clear K
        clear s1
        go_wp2
        go_roundg (gk - m)
        case measure => have := unhide HM; omega
        case rel =>
          refine ⟨k + m, c + 1, by have := unhide HM; omega, by go_num, by go_num, by have := unhide HM; omega, unhide HG, by first | rfl | trivial⟩
def gCode (xs : List Int) (a b : Int) : Int := if 4096 < xs.length then 2 else if wOK xs then (if rOK a b then 0 else 4) else 1
theorem code40 (v : Value) (xs : List Int) (w : World) (hv : intsV w v xs) (hn : xs.length ≤ 1048576) (a b : Int) :
    Calls Try.prog 40 #[v, .int .i64 a, .int .i64 b] w fun e w' => e = .returned (.int .i64 (gCode xs a b)) ∧ w' = w := by
  have K1 := hide (words11 v xs w hv (by omega))
  have K2 := hide (ratio50 a b w)
  obtain ⟨A, cap, rfl, hc⟩ := hv
  clear hc
  have n0 : (0 : Int) ≤ (xs.length : Int) := by omega
  have n1 : (xs.length : Int) ≤ 1048576 := by omega
  by_cases h1 : 4096 < xs.length
  · have q : (4096 : Int) < (xs.length : Int) := by omega
    have HE : Hid (gCode xs a b = 2) := hide (by unfold gCode; rw [if_pos h1])
    clear h1 hn K1 K2
    go_enter Try.func40, Try.ntmps40
    go_wp2
    go_ret
    exact ⟨by rw [unhide HE]; rfl, rfl⟩
  have q : (xs.length : Int) ≤ 4096 := by omega
  cases hb : wOK xs
  · have HE : Hid (gCode xs a b = 1) := hide (by unfold gCode; rw [if_neg h1, hb]; rfl)
    rw [hb] at K1
    clear hb K2 h1 hn
    go_enter Try.func40, Try.ntmps40
    go_wp2_with fail
    refine (unhide K1).mono ?_
    rintro e w' ⟨rfl, hw'⟩
    have hw2 := hw'.symm
    subst hw2
    clear K1
    go_wp2
    go_ret
    exact ⟨by rw [unhide HE]; rfl, rfl⟩
  rw [hb] at K1
  cases hr : rOK a b
  · have HE : Hid (gCode xs a b = 4) := hide (by unfold gCode; rw [if_neg h1, hb, hr]; rfl)
    rw [hr] at K2
    clear hb hr h1 hn
    go_enter Try.func40, Try.ntmps40
    go_wp2_with fail
    refine (unhide K1).mono ?_
    rintro e w' ⟨rfl, hw'⟩
    have hw2 := hw'.symm
    subst hw2
    clear K1
    go_wp2_with fail
    refine (unhide K2).mono ?_
    rintro e w' ⟨rfl, hw'⟩
    have hw2 := hw'.symm
    subst hw2
    clear K2
    go_wp2
    go_ret
    exact ⟨by rw [unhide HE]; rfl, rfl⟩
  · have HE : Hid (gCode xs a b = 0) := hide (by unfold gCode; rw [if_neg h1, hb, hr]; rfl)
    rw [hr] at K2
    clear hb hr h1 hn
    go_enter Try.func40, Try.ntmps40
    go_wp2_with fail
    refine (unhide K1).mono ?_
    rintro e w' ⟨rfl, hw'⟩
    have hw2 := hw'.symm
    subst hw2
    clear K1
    go_wp2_with fail
    refine (unhide K2).mono ?_
    rintro e w' ⟨rfl, hw'⟩
    have hw2 := hw'.symm
    subst hw2
    clear K2
    go_wp2
    go_ret
    exact ⟨by rw [unhide HE]; rfl, rfl⟩
theorem gCode_cases (xs : List Int) (a b : Int) : (4096 < xs.length ∧ gCode xs a b = 2 ∧ wCode xs = 2) ∨ (xs.length ≤ 4096 ∧ wOK xs = false ∧ gCode xs a b = 1 ∧ wCode xs = 1) ∨ (xs.length ≤ 4096 ∧ wOK xs = true ∧ rOK a b = false ∧ gCode xs a b = 4 ∧ wCode xs = 0) ∨
    (xs.length ≤ 4096 ∧ wOK xs = true ∧ rOK a b = true ∧ gCode xs a b = 0 ∧ wCode xs = 0) := by
  unfold gCode wCode
  by_cases h1 : 4096 < xs.length
  · exact .inl ⟨h1, by rw [if_pos h1], by rw [if_pos h1]⟩
  · cases hb : wOK xs
    · exact .inr (.inl ⟨by omega, rfl, by rw [if_neg h1]; rfl, by rw [if_neg h1]; rfl⟩)
    · cases hr : rOK a b
      · exact .inr (.inr (.inl ⟨by omega, rfl, rfl, by rw [if_neg h1]; rfl, by rw [if_neg h1]; rfl⟩))
      · exact .inr (.inr (.inr ⟨by omega, rfl, rfl, by rw [if_neg h1]; rfl, by rw [if_neg h1]; rfl⟩))
def geoR (xs : List Int) (a b : Int) : Int × Int × Int :=
  if gCode xs a b = 0 then (if (gF (65536 - 65536 % b) a b xs 0 0).2.2 then ((gF (65536 - 65536 % b) a b xs 0 0).1, (gF (65536 - 65536 % b) a b xs 0 0).2.1, 0) else (0, 0, 14)) else (0, 0, gCode xs a b)
theorem geoR_code {xs : List Int} {a b c : Int} (h : gCode xs a b = c) (hc : c ≠ 0) : geoR xs a b = (0, 0, c) := by
  unfold geoR; rw [h, if_neg hc]
theorem geoR_ok {xs : List Int} {a b : Int} (h : gCode xs a b = 0) : geoR xs a b = if (gF (65536 - 65536 % b) a b xs 0 0).2.2 then ((gF (65536 - 65536 % b) a b xs 0 0).1, (gF (65536 - 65536 % b) a b xs 0 0).2.1, 0) else (0, 0, 14) := by
  unfold geoR; rw [if_pos h]
theorem geo24 (v : Value) (xs : List Int) (a b : Int) (w : World) (hv : intsC w v xs) (hn : xs.length ≤ 1048576) :
    Calls Try.prog 24 #[v, .int .i64 a, .int .i64 b] w fun e w' => e = .returned (tV (geoR xs a b)) ∧ w' = w := by
  have K1 := hide (code40 v xs w hv.1 hn a b)
  have K2 := hide (fun hk => geo45 v xs w hv hk a b)
  obtain ⟨A, cap, rfl, _⟩ := hv.2
  clear hv
  have n0 : (0 : Int) ≤ (xs.length : Int) := by omega
  have n1 : (xs.length : Int) ≤ 1048576 := by omega
  rcases gCode_cases xs a b with ⟨h1, hg, _⟩ | ⟨h1, hb, hg, _⟩ | ⟨h1, hb, hr, hg, _⟩ | ⟨h1, hb, hr, hg, _⟩
  · have q : (4096 : Int) < (xs.length : Int) := by omega
    have HE := hide (geoR_code hg (by omega))
    clear h1 hn K1 K2 hg
    go_enter Try.func24, Try.ntmps24
    go_wp2
    go_ret3
    exact ⟨by rw [unhide HE]; rfl, rfl⟩
  · have q : (xs.length : Int) ≤ 4096 := by omega
    have HE := hide (geoR_code hg (by omega))
    rw [hg] at K1
    clear h1 hn K2 hg hb
    go_enter Try.func24, Try.ntmps24
    go_wp2_with fail
    refine (unhide K1).mono ?_
    rintro e w' ⟨rfl, hw'⟩
    have hw2 := hw'.symm
    subst hw2
    clear K1
    go_wp2
    go_ret3
    exact ⟨by rw [unhide HE]; rfl, rfl⟩
  · have q : (xs.length : Int) ≤ 4096 := by omega
    have HE := hide (geoR_code hg (by omega))
    rw [hg] at K1
    clear h1 hn K2 hg hb hr
    go_enter Try.func24, Try.ntmps24
    go_wp2_with fail
    refine (unhide K1).mono ?_
    rintro e w' ⟨rfl, hw'⟩
    have hw2 := hw'.symm
    subst hw2
    clear K1
    go_wp2
    go_ret3
    exact ⟨by rw [unhide HE]; rfl, rfl⟩
  · have q : (xs.length : Int) ≤ 4096 := by omega
    have HE := hide (geoR_ok hg)
    rw [hg] at K1
    obtain ⟨r1, r2, r3⟩ : 1 ≤ a ∧ a < b ∧ b ≤ 16 := of_decide_eq_true hr
    have K3 := hide (unhide K2 hb r1 r2 r3)
    generalize gF (65536 - 65536 % b) a b xs 0 0 = r at *
    obtain ⟨x, y, z⟩ := r
    dsimp only at HE
    clear h1 hn K2 hg hb hr r1 r2 r3
    cases z
    all_goals
      go_enter Try.func24, Try.ntmps24
      go_wp2_with fail
      refine (unhide K1).mono ?_
      rintro e w' ⟨rfl, hw'⟩
      have hw2 := hw'.symm
      subst hw2
      clear K1
      go_wp2_with fail
      refine (unhide K3).mono ?_
      rintro e w' ⟨rfl, hw'⟩
      have hw2 := hw'.symm
      subst hw2
      clear K3
      go_wp2
      go_ret3
      exact ⟨by rw [unhide HE]; rfl, rfl⟩
theorem geo23 (v : Value) (xs : List Int) (a b : Int) (w : World) (hv : intsC w v xs) (hn : xs.length ≤ 1048576) :
    Calls Try.prog 23 #[v, .int .i64 a, .int .i64 b] w fun e w' => e = .returned (tV (geoR xs a b)) ∧ Below w.heap.size w w' := by
  have K1 := hide (code14 v xs w hv.1 (by omega))
  have K2 := hide (ratio31 a b w)
  have K3 := hide (fun hk => counts44 v xs w hv hk 1 (by omega) a b)
  obtain ⟨A, cap, rfl, _⟩ := hv.2
  clear hv
  rcases gCode_cases xs a b with ⟨h1, hg, hw⟩ | ⟨h1, hb, hg, hw⟩ | ⟨h1, hb, hr, hg, hw⟩ | ⟨h1, hb, hr, hg, hw⟩
  · have HE := hide (geoR_code hg (by omega))
    rw [hw] at K1
    clear h1 hn K2 K3 hg hw
    go_enter Try.func23, Try.ntmps23
    go_wp2_with fail
    refine (unhide K1).mono ?_
    rintro e w' ⟨rfl, hw'⟩
    have hw2 := hw'.symm
    subst hw2
    clear K1
    go_wp2
    go_ret3
    exact ⟨by rw [unhide HE]; rfl, Below.refl _ _⟩
  · have HE := hide (geoR_code hg (by omega))
    rw [hw] at K1
    clear h1 hn K2 K3 hg hw hb
    go_enter Try.func23, Try.ntmps23
    go_wp2_with fail
    refine (unhide K1).mono ?_
    rintro e w' ⟨rfl, hw'⟩
    have hw2 := hw'.symm
    subst hw2
    clear K1
    go_wp2
    go_ret3
    exact ⟨by rw [unhide HE]; rfl, Below.refl _ _⟩
  · have HE := hide (geoR_code hg (by omega))
    rw [hw] at K1
    rw [hr] at K2
    clear h1 hn K3 hg hw hb hr
    go_enter Try.func23, Try.ntmps23
    go_wp2_with fail
    refine (unhide K1).mono ?_
    rintro e w' ⟨rfl, hw'⟩
    have hw2 := hw'.symm
    subst hw2
    clear K1
    go_wp2_with fail
    refine (unhide K2).mono ?_
    rintro e w' ⟨rfl, hw'⟩
    have hw2 := hw'.symm
    subst hw2
    clear K2
    go_wp2
    go_ret3
    exact ⟨by rw [unhide HE]; rfl, Below.refl _ _⟩
  · have HE := hide (geoR_ok hg)
    rw [hw] at K1
    rw [hr] at K2
    obtain ⟨r1, r2, r3⟩ : 1 ≤ a ∧ a < b ∧ b ≤ 16 := of_decide_eq_true hr
    have K4 := unhide K3 hb r1 r2 r3
    rw [cF_one] at K4
    have K5 := hide K4
    generalize gF (65536 - 65536 % b) a b xs 0 0 = r at *
    obtain ⟨x, y, z⟩ := r
    dsimp only at HE K5
    clear h1 hn K3 hg hb hr r1 r2 r3 K4 hw
    cases z
    · rw [if_neg (by simp)] at K5 HE
      go_enter Try.func23, Try.ntmps23
      go_wp2_with fail
      refine (unhide K1).mono ?_
      rintro e w' ⟨rfl, hw'⟩
      have hw2 := hw'.symm
      subst hw2
      clear K1
      go_wp2_with fail
      refine (unhide K2).mono ?_
      rintro e w' ⟨rfl, hw'⟩
      have hw2 := hw'.symm
      subst hw2
      clear K2
      go_wp2_with fail
      refine (unhide K5).mono ?_
      rintro e w2 ⟨u, t, c, rfl, hb, h⟩
      have HB := hide hb
      clear K5 hb
      rcases h with ⟨ds, k, h, _⟩ | ⟨_, rfl, rfl, rfl⟩
      · cases h
      · go_wp2
        go_ret3
        exact ⟨by rw [unhide HE]; rfl, unhide HB⟩
    · rw [if_pos rfl] at K5 HE
      go_enter Try.func23, Try.ntmps23
      go_wp2_with fail
      refine (unhide K1).mono ?_
      rintro e w' ⟨rfl, hw'⟩
      have hw2 := hw'.symm
      subst hw2
      clear K1
      go_wp2_with fail
      refine (unhide K2).mono ?_
      rintro e w' ⟨rfl, hw'⟩
      have hw2 := hw'.symm
      subst hw2
      clear K2
      go_wp2_with fail
      refine (unhide K5).mono ?_
      rintro e w2 ⟨u, t, c, rfl, hb, h⟩
      have HB := hide hb
      clear K5 hb
      rcases h with ⟨ds, k, h, rfl, rfl, ho⟩ | ⟨h, _⟩
      · obtain ⟨rfl, rfl⟩ := Prod.mk.inj (Option.some.inj h)
        obtain ⟨_, h0⟩ | ⟨g, cp, rest, rfl, _, _, hcell, _⟩ := ho
        · cases h0
        · have p0 := cell_rowO hcell 0 (by simp)
          rw [show ([x] : List Int).getD 0 0 = x from rfl] at p0
          clear h hcell
          go_wp2
          go_ret3
          exact ⟨by rw [unhide HE]; rfl, unhide HB⟩
      · cases h
theorem law_geo (w : World) (v : Value) (xs : List Int) (hv : intsV w v xs) (hl : xs.length ≤ maxLen) (a b : Int) :
    Calls Try.prog 6 #[v, .int .i64 a, .int .i64 b] w fun e w' => e = .returned (.bool true) ∧ Below w.heap.size w w' := by
  have HV := hide hv
  obtain ⟨A, cap, rfl, hc⟩ := hv
  clear hc
  unfold maxLen at hl
  have n0 : (0 : Int) ≤ (xs.length : Int) := by omega
  have n1 : (xs.length : Int) ≤ 9223372036854775807 := by omega
  by_cases h1 : 1048576 < xs.length
  · have q : (1048576 : Int) < (xs.length : Int) := by omega
    clear h1 hl HV
    go_enter Try.func6, Try.ntmps6
    go_wp2
    go_ret
    exact ⟨rfl, Below.refl _ _⟩
  have q : (xs.length : Int) ≤ 1048576 := by omega
  have HN := hide (show xs.length ≤ 1048576 by omega)
  clear h1 hl
  have HTO : Hid (∀ u W, intsV W u xs → Calls Try.prog 26 #[u] W fun e w' => ∃ r, e = .returned r ∧ ownI W.heap.size w'.heap.size w' r xs ∧ Below W.heap.size W w') := hide fun u W hu => to6 u xs W hu (by have := unhide HN; omega)
  have HSP : Hid (∀ u W, intsC W u xs → Calls Try.prog 24 #[u, .int .i64 a, .int .i64 b] W fun e w' => e = .returned (tV (geoR xs a b)) ∧ w' = W) := hide fun u W hu => geo24 u xs a b W hu (unhide HN)
  have HIM : Hid (∀ u W, intsC W u xs → Calls Try.prog 23 #[u, .int .i64 a, .int .i64 b] W fun e w' => e = .returned (tV (geoR xs a b)) ∧ Below W.heap.size W w') := hide fun u W hu => geo23 u xs a b W hu (unhide HN)
  generalize geoR xs a b = r at *
  obtain ⟨x, y, z⟩ := r
  go_enter Try.func6, Try.ntmps6
  go_wp2_with fail
  refine (unhide HTO _ w (unhide HV)).mono ?_
  rintro e w2 ⟨u1, rfl, o2, b2⟩
  have B2 := hide b2
  have U2 := hide o2.intsC
  clear o2 b2
  go_wp2_with fail
  refine (unhide HSP _ w2 (unhide U2)).mono ?_
  rintro e w3 ⟨rfl, rfl⟩
  clear U2
  go_wp2_with fail
  refine (unhide HTO _ w3 ((unhide HV).below (unhide B2))).mono ?_
  rintro e w4 ⟨u, rfl, o4, b4⟩
  have B4 := hide (bl_st b4 (unhide B2))
  have U4 := hide o4.intsC
  clear o4 b4 B2
  go_wp2_with fail
  refine (unhide HIM _ w4 (unhide U4)).mono ?_
  rintro e w5 ⟨rfl, b5⟩
  have B5 := hide (bl_st b5 (unhide B4))
  have U5 := hide ((unhide U4).1.below b5)
  clear b5 B4 U4
  go_wp2_with fail
  refine (unhide HTO _ w5 ((unhide HV).below (unhide B5))).mono ?_
  rintro e w6 ⟨u6, rfl, o6, b6⟩
  have B6 := hide (bl_st b6 (unhide B5))
  have U6 := hide ((unhide U5).below b6)
  have V6 := hide o6.ints
  clear o6 b6 B5 U5
  go_wp2_with fail
  refine (eq8 _ _ xs w6 (unhide U6) (unhide V6) (by have := unhide HN; omega)).mono ?_
  rintro e w7 ⟨rfl, k, rfl⟩
  have B7 := hide (below_drewN (unhide B6) k)
  clear B6
  go_wp2
  go_ret
  exact ⟨rfl, unhide B7⟩
end Go.Proofs.Ytafjodaeckiedaa
