/- NoiseOf: both sides, and the law of it, walked. -/
import Derived.Test.YtafjodaeckiedaaNoj
namespace Go.Proofs.Ytafjodaeckiedaa
open Go.RowKit
set_option maxHeartbeats 4000000
set_option maxRecDepth 20000
def nzR (m : Int) : Option (List Int × Int) → Int × Int × Int
  | some ([g, h], k) => (clampN m g h, k, 0)
  | _ => (0, 0, 14)
def noiR (xs : List Int) (m a b : Int) : Int × Int × Int := if nCode xs m a b = 0 then nzR m (cF (65536 - 65536 % b) a b 2 xs 0) else (0, 0, nCode xs m a b)
theorem noiR_code {xs : List Int} {m a b c : Int} (h : nCode xs m a b = c) (hc : c ≠ 0) : noiR xs m a b = (0, 0, c) := by
  unfold noiR; rw [h, if_neg hc]
theorem noiR_ok {xs : List Int} {m a b : Int} (h : nCode xs m a b = 0) : noiR xs m a b = nzR m (cF (65536 - 65536 % b) a b 2 xs 0) := by
  unfold noiR; rw [if_pos h]
theorem noi18 (v : Value) (xs : List Int) (m a b : Int) (w : World) (hv : intsC w v xs) (hn : xs.length ≤ 1048576) :
    Calls Try.prog 18 #[v, .int .i64 m, .int .i64 a, .int .i64 b] w fun e w' => e = .returned (tV (noiR xs m a b)) ∧ w' = w := by
  have K1 := hide (code40 v xs w hv.1 hn a b)
  have K2 := hide (in19 m 0 8 w)
  have K3 := hide (fun hk => noi42 v xs w hv hk m a b)
  obtain ⟨A, cap, rfl, _⟩ := hv.2
  clear hv
  have n0 : (0 : Int) ≤ (xs.length : Int) := by omega
  have n1 : (xs.length : Int) ≤ 1048576 := by omega
  rw [show (decide (0 ≤ m) && decide (m ≤ 8)) = mOK m by unfold mOK; rw [Bool.eq_iff_iff]; simp] at K2
  rcases gCode_cases xs a b with ⟨h1, hg, _⟩ | ⟨h1, hb, hg, _⟩ | ⟨h1, hb, hr, hg, _⟩ | ⟨h1, hb, hr, hg, _⟩
  · have q : (4096 : Int) < (xs.length : Int) := by omega
    have HE := hide (noiR_code (show nCode xs m a b = 2 by unfold nCode; rw [hg, if_neg (by omega)]) (by omega))
    clear h1 hn K1 K2 K3 hg
    go_enter Try.func18, Try.ntmps18
    go_wp2
    go_ret3
    exact ⟨by rw [unhide HE]; rfl, rfl⟩
  · have q : (xs.length : Int) ≤ 4096 := by omega
    have HE := hide (noiR_code (show nCode xs m a b = 1 by unfold nCode; rw [hg, if_neg (by omega)]) (by omega))
    rw [hg] at K1
    clear h1 hn K2 K3 hg hb
    go_enter Try.func18, Try.ntmps18
    go_wp2_with fail
    refine (unhide K1).mono ?_
    rintro e w' ⟨rfl, hw'⟩
    have hw2 := hw'.symm
    subst hw2
    clear K1
    go_wp2
    go_ret3
    exact ⟨by rw [unhide HE]; rfl, rfl⟩
  · have q : (xs.length : Int) ≤ 4096 := by omega
    have HE := hide (noiR_code (show nCode xs m a b = 4 by unfold nCode; rw [hg, if_neg (by omega)]) (by omega))
    rw [hg] at K1
    clear h1 hn K2 K3 hg hb hr
    go_enter Try.func18, Try.ntmps18
    go_wp2_with fail
    refine (unhide K1).mono ?_
    rintro e w' ⟨rfl, hw'⟩
    have hw2 := hw'.symm
    subst hw2
    clear K1
    go_wp2
    go_ret3
    exact ⟨by rw [unhide HE]; rfl, rfl⟩
  · have q : (xs.length : Int) ≤ 4096 := by omega
    rw [hg] at K1
    cases hm : mOK m
    · have HE := hide (noiR_code (show nCode xs m a b = 4 by unfold nCode; rw [hg, if_pos rfl, hm]; rfl) (by omega))
      rw [hm] at K2
      clear h1 hn K3 hg hb hr hm
      go_enter Try.func18, Try.ntmps18
      go_wp2_with fail
      refine (unhide K1).mono ?_
      rintro e w' ⟨rfl, hw'⟩
      have hw2 := hw'.symm
      subst hw2
      clear K1
      go_wp2_with fail
      refine (unhide K2).mono ?_
      rintro e w' ⟨rfl, hw'⟩
      have hw2 := hw'.symm
      subst hw2
      clear K2
      go_wp2
      go_ret3
      exact ⟨by rw [unhide HE]; rfl, rfl⟩
    · have HE := hide (noiR_ok (show nCode xs m a b = 0 by unfold nCode; rw [hg, if_pos rfl, hm]; rfl))
      rw [hm] at K2
      obtain ⟨r1, r2, r3⟩ : 1 ≤ a ∧ a < b ∧ b ≤ 16 := of_decide_eq_true hr
      obtain ⟨m0, m8⟩ : 0 ≤ m ∧ m ≤ 8 := of_decide_eq_true hm
      have K4 := hide (unhide K3 hb m0 m8 r1 r2 r3)
      generalize cF (65536 - 65536 % b) a b 2 xs 0 = r at *
      clear h1 hn K3 hg hb hr hm r1 r2 r3 m0 m8
      go_enter Try.func18, Try.ntmps18
      go_wp2_with fail
      refine (unhide K1).mono ?_
      rintro e w' ⟨rfl, hw'⟩
      have hw2 := hw'.symm
      subst hw2
      clear K1
      go_wp2_with fail
      refine (unhide K2).mono ?_
      rintro e w' ⟨rfl, hw'⟩
      have hw2 := hw'.symm
      subst hw2
      clear K2
      go_wp2_with fail
      refine (unhide K4).mono ?_
      rintro e w2 ⟨⟨x, t, ok, rfl, ho, hy⟩, hw2⟩
      have hw3 := hw2.symm
      subst hw3
      clear K4
      cases ok
      · have HO := hide (ho rfl)
        clear ho hy
        go_wp2
        go_ret3
        exact ⟨by rw [unhide HE, unhide HO]; rfl, rfl⟩
      · obtain ⟨g, h, hc, hx⟩ := hy rfl
        have HO := hide hc
        have HX := hide hx
        clear ho hy hc hx
        go_wp2
        go_ret3
        exact ⟨by rw [unhide HE, unhide HO, unhide HX]; rfl, rfl⟩
theorem noi17 (v : Value) (xs : List Int) (m a b : Int) (w : World) (hv : intsC w v xs) (hn : xs.length ≤ 1048576) :
    Calls Try.prog 17 #[v, .int .i64 m, .int .i64 a, .int .i64 b] w fun e w' => e = .returned (tV (noiR xs m a b)) ∧ Below w.heap.size w w' := by
  have K1 := hide (noises39 v xs w hv hn 1 (by omega) m a b)
  obtain ⟨A, cap, rfl, _⟩ := hv.2
  clear hv hn
  go_enter Try.func17, Try.ntmps17
  go_wp2_with fail
  refine (unhide K1).mono ?_
  rintro e w2 ⟨⟨u, t, c, rfl, h⟩, hb⟩
  have HB := hide hb
  clear K1 hb
  rcases h with ⟨h1, rfl, rfl, rfl⟩ | ⟨h1, h2, rfl, rfl, rfl⟩ | ⟨h1, rfl, ds, h2, ho⟩
  · have HE := hide (noiR_code rfl h1)
    have h3 : (nCode xs m a b != 0) = true := by simpa using h1
    generalize nCode xs m a b = c at *
    clear h1
    go_wp2
    go_ret3
    exact ⟨by rw [unhide HE]; rfl, unhide HB⟩
  · have HE := noiR_ok h1
    rw [h2] at HE
    have HE := hide HE
    clear h1 h2
    go_wp2
    go_ret3
    exact ⟨by rw [unhide HE]; rfl, unhide HB⟩
  · have HE := noiR_ok h1
    obtain ⟨b1, _, _, _⟩ := cF_bd _ _ _ _ _ h2
    match ds, b1, h2, ho with
    | [g, h], _, h2, ho =>
      rw [show 1 * 2 = 2 from rfl] at h2
      rw [h2] at HE
      have HE := hide HE
      obtain ⟨_, h0⟩ | ⟨q, cp, rest, rfl, _, _, hcell, _⟩ := ho
      · cases h0
      · have p0 := cell_rowO hcell 0 (by simp [noisesL])
        rw [show (noisesL m [g, h]).getD 0 0 = clampN m g h from rfl] at p0
        rw [show (noisesL m [g, h]).length = 1 from rfl]
        clear h1 h2 hcell
        go_wp2
        go_ret3
        exact ⟨by rw [unhide HE]; rfl, unhide HB⟩
theorem law_noi (w : World) (v : Value) (xs : List Int) (hv : intsV w v xs) (hl : xs.length ≤ maxLen) (m a b : Int) :
    Calls Try.prog 7 #[v, .int .i64 m, .int .i64 a, .int .i64 b] w fun e w' => e = .returned (.bool true) ∧ Below w.heap.size w w' := by
  have HV := hide hv
  obtain ⟨A, cap, rfl, hc⟩ := hv
  clear hc
  unfold maxLen at hl
  have n0 : (0 : Int) ≤ (xs.length : Int) := by omega
  have n1 : (xs.length : Int) ≤ 9223372036854775807 := by omega
  by_cases h1 : 1048576 < xs.length
  · have q : (1048576 : Int) < (xs.length : Int) := by omega
    clear h1 hl HV
    go_enter Try.func7, Try.ntmps7
    go_wp2
    go_ret
    exact ⟨rfl, Below.refl _ _⟩
  have q : (xs.length : Int) ≤ 1048576 := by omega
  have HN := hide (show xs.length ≤ 1048576 by omega)
  clear h1 hl
  have HTO : Hid (∀ u W, intsV W u xs → Calls Try.prog 26 #[u] W fun e w' => ∃ r, e = .returned r ∧ ownI W.heap.size w'.heap.size w' r xs ∧ Below W.heap.size W w') := hide fun u W hu => to6 u xs W hu (by have := unhide HN; omega)
  have HSP : Hid (∀ u W, intsC W u xs → Calls Try.prog 18 #[u, .int .i64 m, .int .i64 a, .int .i64 b] W fun e w' => e = .returned (tV (noiR xs m a b)) ∧ w' = W) := hide fun u W hu => noi18 u xs m a b W hu (unhide HN)
  have HIM : Hid (∀ u W, intsC W u xs → Calls Try.prog 17 #[u, .int .i64 m, .int .i64 a, .int .i64 b] W fun e w' => e = .returned (tV (noiR xs m a b)) ∧ Below W.heap.size W w') := hide fun u W hu => noi17 u xs m a b W hu (unhide HN)
  generalize noiR xs m a b = r at *
  obtain ⟨x, y, z⟩ := r
  go_enter Try.func7, Try.ntmps7
  go_wp2_with fail
  refine (unhide HTO _ w (unhide HV)).mono ?_
  rintro e w2 ⟨u1, rfl, o2, b2⟩
  have B2 := hide b2
  have U2 := hide o2.intsC
  clear o2 b2
  go_wp2_with fail
  refine (unhide HSP _ w2 (unhide U2)).mono ?_
  rintro e w3 ⟨rfl, rfl⟩
  clear U2
  go_wp2_with fail
  refine (unhide HTO _ w3 ((unhide HV).below (unhide B2))).mono ?_
  rintro e w4 ⟨u, rfl, o4, b4⟩
  have B4 := hide (bl_st b4 (unhide B2))
  have U4 := hide o4.intsC
  clear o4 b4 B2
  go_wp2_with fail
  refine (unhide HIM _ w4 (unhide U4)).mono ?_
  rintro e w5 ⟨rfl, b5⟩
  have B5 := hide (bl_st b5 (unhide B4))
  have U5 := hide ((unhide U4).1.below b5)
  clear b5 B4 U4
  go_wp2_with fail
  refine (unhide HTO _ w5 ((unhide HV).below (unhide B5))).mono ?_
  rintro e w6 ⟨u6, rfl, o6, b6⟩
  have B6 := hide (bl_st b6 (unhide B5))
  have U6 := hide ((unhide U5).below b6)
  have V6 := hide o6.ints
  clear o6 b6 B5 U5
  go_wp2_with fail
  refine (eq8 _ _ xs w6 (unhide U6) (unhide V6) (by have := unhide HN; omega)).mono ?_
  rintro e w7 ⟨rfl, k, rfl⟩
  have B7 := hide (below_drewN (unhide B6) k)
  clear B6
  go_wp2
  go_ret
  exact ⟨rfl, unhide B7⟩
end Go.Proofs.Ytafjodaeckiedaa
