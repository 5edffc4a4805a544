/- UniformOf, both sides, and the law of it, walked. -/
import Derived.Test.YtaijjddannlieaaUni
namespace Go.Proofs.Ytaijjddannlieaa
open Go.RowKit
set_option maxHeartbeats 4000000
set_option maxRecDepth 20000
def uniR (xs : List Int) (n : Int) : Int × Int × Int :=
  if 4096 < xs.length then (0, 0, 2) else if wOK xs = false then (0, 0, 1) else if 1 ≤ n ∧ n ≤ 65536 then
    (if (uF (65536 - 65536 % n) n xs 0).2.2 then ((uF (65536 - 65536 % n) n xs 0).1, (uF (65536 - 65536 % n) n xs 0).2.1, 0) else (0, 0, 14)) else (0, 0, 4)
abbrev rV (r : Int × Int × Int) : Value := .tuple #[.int .i64 r.1, .int .i64 r.2.1, .int .i64 r.2.2]
theorem of5 (v : Value) (xs : List Int) (n : Int) (w : World) (hv : intsV w v xs) (hn : xs.length ≤ 1048576) :
    Calls Try.prog 5 #[v, .int .i64 n] w fun e w' => e = .returned (rV (uniR xs n)) ∧ w' = w := by
  have K1 := hide (words11 v xs w hv (by omega))
  have K2 := hide (fun W => in19 n 1 65536 W)
  have K3 := hide (uni13 v xs n w hv)
  obtain ⟨A, cap, rfl, hc⟩ := hv
  clear hc
  have n0 : (0 : Int) ≤ (xs.length : Int) := by omega
  have n1 : (xs.length : Int) ≤ 1048576 := by omega
  by_cases h1 : 4096 < xs.length
  · have q : (4096 : Int) < (xs.length : Int) := by omega
    have HE : Hid (uniR xs n = (0, 0, 2)) := hide (by unfold uniR; rw [if_pos h1])
    clear h1 hn K1 K2 K3
    go_enter Try.func5, Try.ntmps5
    go_wp2
    go_ret3
    exact ⟨by rw [unhide HE]; rfl, rfl⟩
  have q : (xs.length : Int) ≤ 4096 := by omega
  have H1 := hide h1
  clear h1 hn
  cases hb : wOK xs
  · have HE : Hid (uniR xs n = (0, 0, 1)) := hide (by unfold uniR; rw [if_neg (unhide H1), if_pos hb])
    rw [hb] at K1
    clear hb K2 K3 H1
    go_enter Try.func5, Try.ntmps5
    go_wp2_with fail
    refine (unhide K1).mono ?_
    rintro e w' ⟨rfl, rfl⟩
    clear K1
    go_wp2
    go_ret3
    exact ⟨by rw [unhide HE]; rfl, rfl⟩
  rw [hb] at K1
  have HB := hide hb
  clear hb
  by_cases h : 1 ≤ n ∧ n ≤ 65536
  · have HE : Hid (uniR xs n = if (uF (65536 - 65536 % n) n xs 0).2.2 then ((uF (65536 - 65536 % n) n xs 0).1, (uF (65536 - 65536 % n) n xs 0).2.1, 0) else (0, 0, 14)) := hide (by
      unfold uniR; rw [if_neg (unhide H1), if_neg (by rw [unhide HB]; simp), if_pos h])
    rw [show (decide (1 ≤ n) && decide (n ≤ 65536)) = true by simp [h]] at K2
    have K := hide (unhide K3 (unhide HB) h.1 h.2)
    clear K3 HB H1 h
    generalize uF (65536 - 65536 % n) n xs 0 = r at *
    obtain ⟨a, b, c⟩ := r
    dsimp only at HE
    cases c
    all_goals
      go_enter Try.func5, Try.ntmps5
      go_wp2_with fail
      refine (unhide K1).mono ?_
      rintro e w' ⟨rfl, rfl⟩
      clear K1
      go_wp2_with fail
      refine (unhide K2 _).mono ?_
      rintro e w' ⟨rfl, rfl⟩
      clear K2
      go_wp2_with fail
      refine (unhide K).mono ?_
      rintro e w' ⟨rfl, rfl⟩
      clear K
      go_wp2
      go_ret3
      exact ⟨by rw [unhide HE]; rfl, rfl⟩
  · have HE : Hid (uniR xs n = (0, 0, 4)) := hide (by unfold uniR; rw [if_neg (unhide H1), if_neg (by rw [unhide HB]; simp), if_neg h])
    rw [show (decide (1 ≤ n) && decide (n ≤ 65536)) = false by simp; omega] at K2
    clear K3 HB H1 h
    go_enter Try.func5, Try.ntmps5
    go_wp2_with fail
    refine (unhide K1).mono ?_
    rintro e w' ⟨rfl, rfl⟩
    clear K1
    go_wp2_with fail
    refine (unhide K2 _).mono ?_
    rintro e w' ⟨rfl, rfl⟩
    clear K2
    go_wp2
    go_ret3
    exact ⟨by rw [unhide HE]; rfl, rfl⟩
theorem of7 (v : Value) (xs : List Int) (n : Int) (w : World) (hv : intsV w v xs) (hn : xs.length ≤ 1048576) :
    Calls Try.prog 7 #[v, .int .i64 n] w fun e w' => e = .returned (rV (uniR xs n)) ∧ w' = w := by
  have K1 := hide (code14 v xs w hv (by omega))
  have K2 := hide (fun W => bound15 n W)
  have K3 := hide (uni16 v xs n w hv)
  obtain ⟨A, cap, rfl, hc⟩ := hv
  clear hc
  by_cases h1 : 4096 < xs.length
  · have HE : Hid (uniR xs n = (0, 0, 2)) := hide (by unfold uniR; rw [if_pos h1])
    rw [show wCode xs = 2 by unfold wCode; rw [if_pos h1]] at K1
    clear h1 hn K2 K3
    go_enter Try.func7, Try.ntmps7
    go_wp2_with fail
    refine (unhide K1).mono ?_
    rintro e w' ⟨rfl, rfl⟩
    clear K1
    go_wp2
    go_ret3
    exact ⟨by rw [unhide HE]; rfl, rfl⟩
  have H1 := hide h1
  have hw : wCode xs = if wOK xs then 0 else 1 := by unfold wCode; rw [if_neg h1]
  rw [hw] at K1
  clear h1 hn hw
  cases hb : wOK xs
  · have HE : Hid (uniR xs n = (0, 0, 1)) := hide (by unfold uniR; rw [if_neg (unhide H1), if_pos hb])
    rw [hb, if_neg (by simp)] at K1
    clear hb K2 K3 H1
    go_enter Try.func7, Try.ntmps7
    go_wp2_with fail
    refine (unhide K1).mono ?_
    rintro e w' ⟨rfl, rfl⟩
    clear K1
    go_wp2
    go_ret3
    exact ⟨by rw [unhide HE]; rfl, rfl⟩
  rw [hb, if_pos rfl] at K1
  have HB := hide hb
  clear hb
  by_cases h : 1 ≤ n ∧ n ≤ 65536
  · have HE : Hid (uniR xs n = if (uF (65536 - 65536 % n) n xs 0).2.2 then ((uF (65536 - 65536 % n) n xs 0).1, (uF (65536 - 65536 % n) n xs 0).2.1, 0) else (0, 0, 14)) := hide (by
      unfold uniR; rw [if_neg (unhide H1), if_neg (by rw [unhide HB]; simp), if_pos h])
    rw [show (decide (1 ≤ n) && decide (n ≤ 65536)) = true by simp [h]] at K2
    have K := hide (unhide K3 (unhide HB) h.1 h.2)
    clear K3 HB H1 h
    generalize uF (65536 - 65536 % n) n xs 0 = r at *
    obtain ⟨a, b, c⟩ := r
    dsimp only at HE
    cases c
    all_goals
      go_enter Try.func7, Try.ntmps7
      go_wp2_with fail
      refine (unhide K1).mono ?_
      rintro e w' ⟨rfl, rfl⟩
      clear K1
      go_wp2_with fail
      refine (unhide K2 _).mono ?_
      rintro e w' ⟨rfl, rfl⟩
      clear K2
      go_wp2_with fail
      refine (unhide K).mono ?_
      rintro e w' ⟨rfl, rfl⟩
      clear K
      go_wp2
      go_ret3
      exact ⟨by rw [unhide HE]; rfl, rfl⟩
  · have HE : Hid (uniR xs n = (0, 0, 4)) := hide (by unfold uniR; rw [if_neg (unhide H1), if_neg (by rw [unhide HB]; simp), if_neg h])
    rw [show (decide (1 ≤ n) && decide (n ≤ 65536)) = false by simp; omega] at K2
    clear K3 HB H1 h
    go_enter Try.func7, Try.ntmps7
    go_wp2_with fail
    refine (unhide K1).mono ?_
    rintro e w' ⟨rfl, rfl⟩
    clear K1
    go_wp2_with fail
    refine (unhide K2 _).mono ?_
    rintro e w' ⟨rfl, rfl⟩
    clear K2
    go_wp2
    go_ret3
    exact ⟨by rw [unhide HE]; rfl, rfl⟩
theorem law_uni (w : World) (v : Value) (xs : List Int) (hv : intsV w v xs) (hl : xs.length ≤ maxLen) (n : Int) :
    Calls Try.prog 3 #[v, .int .i64 n] w fun e w' => e = .returned (.bool true) ∧ Below w.heap.size w w' := by
  have HV := hide hv
  obtain ⟨A, cap, rfl, hc⟩ := hv
  clear hc
  unfold maxLen at hl
  have n0 : (0 : Int) ≤ (xs.length : Int) := by omega
  have n1 : (xs.length : Int) ≤ 9223372036854775807 := by omega
  by_cases h1 : 1048576 < xs.length
  · have q : (1048576 : Int) < (xs.length : Int) := by omega
    clear h1 hl HV
    go_enter Try.func3, Try.ntmps3
    go_wp2
    go_ret
    exact ⟨rfl, Below.refl _ _⟩
  have q : (xs.length : Int) ≤ 1048576 := by omega
  have HN := hide (show xs.length ≤ 1048576 by omega)
  clear h1 hl
  have HTO : Hid (∀ u W, intsV W u xs → Calls Try.prog 6 #[u] W fun e w' => ∃ r, e = .returned r ∧ ownI W.heap.size w'.heap.size w' r xs ∧ Below W.heap.size W w') := hide fun u W hu => to6 u xs W hu (by have := unhide HN; omega)
  have HSP : Hid (∀ u W, intsV W u xs → Calls Try.prog 5 #[u, .int .i64 n] W fun e w' => e = .returned (rV (uniR xs n)) ∧ w' = W) := hide fun u W hu => of5 u xs n W hu (unhide HN)
  have HIM : Hid (∀ u W, intsV W u xs → Calls Try.prog 7 #[u, .int .i64 n] W fun e w' => e = .returned (rV (uniR xs n)) ∧ w' = W) := hide fun u W hu => of7 u xs n W hu (unhide HN)
  generalize uniR xs n = r at *
  obtain ⟨a, b, c⟩ := r
  go_enter Try.func3, Try.ntmps3
  go_wp2_with fail
  refine (unhide HTO _ w (unhide HV)).mono ?_
  rintro e w2 ⟨u1, rfl, o2, b2⟩
  have B2 := hide b2
  have U2 := hide o2.ints
  clear o2 b2
  go_wp2_with fail
  refine (unhide HSP _ w2 (unhide U2)).mono ?_
  rintro e w3 ⟨rfl, rfl⟩
  clear U2
  go_wp2_with fail
  refine (unhide HTO _ w3 ((unhide HV).below (unhide B2))).mono ?_
  rintro e w4 ⟨u, rfl, o4, b4⟩
  have B4 := hide (bl_st b4 (unhide B2))
  have U4 := hide o4.ints
  clear o4 b4 B2
  go_wp2_with fail
  refine (unhide HIM _ w4 (unhide U4)).mono ?_
  rintro e w5 ⟨rfl, rfl⟩
  go_wp2_with fail
  refine (unhide HTO _ w5 ((unhide HV).below (unhide B4))).mono ?_
  rintro e w6 ⟨u6, rfl, o6, b6⟩
  have B6 := hide (bl_st b6 (unhide B4))
  have U6 := hide ((unhide U4).below b6)
  have V6 := hide o6.ints
  clear o6 b6 B4 U4
  go_wp2_with fail
  refine (eq8 _ _ xs w6 (unhide U6) (unhide V6) (by have := unhide HN; omega)).mono ?_
  rintro e w7 ⟨rfl, k, rfl⟩
  have B7 := hide (below_drewN (unhide B6) k)
  clear B6
  go_wp2
  go_ret
  exact ⟨rfl, unhide B7⟩
end Go.Proofs.Ytaijjddannlieaa
