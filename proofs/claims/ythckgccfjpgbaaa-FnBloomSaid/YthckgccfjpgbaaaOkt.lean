/- Right filters: whole filters, the codes of a tag. -/
import Derived.Test.YthckgccfjpgbaaaOks
namespace Go.Proofs.Ythckgccfjpgbaaa
open Go.RowKit
set_option maxHeartbeats 4000000
set_option maxRecDepth 20000
theorem long45 (v : Value) (ss : List Slt) (w : World) (hv : saltsV w v ss) (hn : ss.length ≤ 2097152) :
    Calls Try.prog 45 #[v] w fun e w' => e = .returned (.bool (decide (4096 < (ss.length : Int)))) ∧ w' = w := by
  obtain ⟨A, cap, rfl⟩ := hv.slice
  clear hv
  have n0 : (0 : Int) ≤ (ss.length : Int) := by omega
  go_enter Try.func45, Try.ntmps45
  go_wp2
  all_goals
    go_ret
    exact ⟨ret_bool (by simp), rfl⟩
theorem long80 (v : Value) (xs : List Int) (w : World) (hv : intsV w v xs) (hn : xs.length ≤ 2097152) :
    Calls Try.prog 80 #[v] w fun e w' => e = .returned (.bool (decide (4096 < (xs.length : Int)))) ∧ w' = w := by
  obtain ⟨A, cap, rfl, _⟩ := hv
  have n0 : (0 : Int) ≤ (xs.length : Int) := by omega
  go_enter Try.func80, Try.ntmps80
  go_wp2
  all_goals
    go_ret
    exact ⟨ret_bool (by simp), rfl⟩
theorem saltsB_none {p : Int} {ss : List Slt} (h : ss.length < 1) : saltsB p ss = false := by
  unfold saltsB; rw [decide_eq_false (by omega)]; rfl
theorem saltsB_many {p : Int} {ss : List Slt} (h : 4 < ss.length) : saltsB p ss = false := by
  unfold saltsB; rw [decide_eq_false (show ¬ ss.length ≤ 4 by omega), Bool.and_false]; rfl
theorem saltsB_all {p : Int} {ss : List Slt} (h1 : 1 ≤ ss.length) (h4 : ss.length ≤ 4) : saltsB p ss = ss.all (saltOK p) := by
  unfold saltsB; rw [decide_eq_true h1, decide_eq_true h4]; rfl
theorem salts47 (q : Nat) (p wd : Int) (a b : Value) (ss : List Slt) (w : World) (hq : BC q p wd a b w) (ha : saltsV w a ss) (hn : ss.length ≤ 2097152) :
    Calls Try.prog 47 #[ptr q] w fun e w' => e = .returned (.bool (saltsB p ss)) ∧ Below w.heap.size w w' := by
  have K := hide (has76 a ss q p wd a b w ha hn hq)
  obtain ⟨_, c0, c1, c2, c3⟩ := hq
  obtain ⟨A, cap, rfl⟩ := ha.slice
  clear ha
  by_cases h1 : ss.length < 1
  · have HE := hide (saltsB_none (p := p) h1)
    have q1 : (ss.length : Int) < 1 := by omega
    have q2 : decide ((1 : Int) ≤ (ss.length : Int)) = false := by simp; omega
    clear h1 hn K
    go_enter Try.func47, Try.ntmps47
    go_wp2
    go_ret
    exact ⟨by rw [unhide HE]; rfl, Below.refl _ _⟩
  by_cases h4 : 4 < ss.length
  · have HE := hide (saltsB_many (p := p) h4)
    have q1 : (1 : Int) ≤ (ss.length : Int) := by omega
    have q2 : (4 : Int) < (ss.length : Int) := by omega
    have q3 : decide ((ss.length : Int) ≤ 4) = false := by simp; omega
    clear h1 h4 hn K
    go_enter Try.func47, Try.ntmps47
    go_wp2
    go_ret
    exact ⟨by rw [unhide HE]; rfl, Below.refl _ _⟩
  have HE := hide (saltsB_all (p := p) (show 1 ≤ ss.length by omega) (show ss.length ≤ 4 by omega))
  have q1 : (1 : Int) ≤ (ss.length : Int) := by omega
  have q2 : (ss.length : Int) ≤ 4 := by omega
  clear h1 h4 hn
  generalize ss.all (saltOK p) = bb at *
  cases bb
  all_goals
    go_enter Try.func47, Try.ntmps47
    go_wp2_with fail
    refine (unhide K).mono ?_
    rintro e w1 ⟨rfl, b1⟩
    have B1 := hide b1
    clear K b1 c0 c1 c2 c3
    go_wp2
    go_ret
    exact ⟨by rw [unhide HE]; rfl, unhide B1⟩
theorem okX_no {x : Blm} (h : shapeB x.p x.w = false) : okX x = false := by unfold okX; rw [h]; rfl
theorem okX_no2 {x : Blm} (h : saltsB x.p x.s = false) : okX x = false := by unfold okX; rw [h, Bool.and_false]; rfl
theorem okX_is {x : Blm} (h : shapeB x.p x.w = true) (h2 : saltsB x.p x.s = true) : okX x = decide ((x.b.length : Int) = x.w * (x.s.length : Int)) := by unfold okX; rw [h, h2]; rfl
theorem saltsB_len {p : Int} {ss : List Slt} (h : saltsB p ss = true) : 1 ≤ ss.length ∧ ss.length ≤ 4 := by
  unfold saltsB at h
  simp only [Bool.and_eq_true, decide_eq_true_eq] at h
  exact ⟨h.1.1, h.1.2⟩
theorem mul_in {wd n : Int} (h1 : 1 ≤ wd) (h2 : wd ≤ 64) (h3 : 1 ≤ n) (h4 : n ≤ 4) : 0 ≤ wd * n ∧ wd * n ≤ 256 := by
  have : n = 1 ∨ n = 2 ∨ n = 3 ∨ n = 4 := by omega
  rcases this with rfl | rfl | rfl | rfl <;> omega
theorem ok15 (v : Value) (x : Blm) (w : World) (hv : blmV w v x) (hn : x.s.length ≤ 2097152) (hn' : x.b.length ≤ 2097152) :
    Calls Try.prog 15 #[v] w fun e w' => e = .returned (.bool (okX x)) ∧ Below w.heap.size w w' := by
  obtain ⟨a, b, rfl, ha, hb⟩ := hv
  have B1 : Below w.heap.size w (w.alloc (.cells #[.int .i64 x.p, .int .i64 x.w, a, b] 26)) := bl_al (Below.refl _ _)
  have C := bc_new w x.p x.w a b 26
  have K1 := hide (sizes46 w.heap.size x.p x.w a b _ C)
  have K2 := hide (fun k => salts47 w.heap.size x.p x.w a b x.s _ (C.below (below_drewN (Below.refl _ _) k)) ((ha.below B1).below (below_drewN (Below.refl _ _) k)) hn)
  have HC := hide C
  have HB := hide B1
  obtain ⟨A, ca, rfl⟩ := ha.slice
  obtain ⟨A2, cb, rfl⟩ := hb.slice
  clear B1 ha hb C
  have HE1 := hide (fun h => okX_no (x := x) h)
  have HE2 := hide (fun h => okX_no2 (x := x) h)
  have HE3 := hide (fun h h2 => okX_is (x := x) h h2)
  have HI : Hid (shapeB x.p x.w = true → saltsB x.p x.s = true → 0 ≤ x.w * (x.s.length : Int) ∧ x.w * (x.s.length : Int) ≤ 256) := hide fun h h2 => by
    have e1 := shapeB_in h
    have e2 := saltsB_len h2
    exact mul_in (by omega) (by omega) (by omega) (by omega)
  have n0 : (0 : Int) ≤ (x.s.length : Int) := by omega
  have n1 : (x.s.length : Int) ≤ 2097152 := by omega
  have m0 : (0 : Int) ≤ (x.b.length : Int) := by omega
  have m1 : (x.b.length : Int) ≤ 2097152 := by omega
  clear hn hn'
  obtain ⟨p, wd, ss, bs⟩ := x
  dsimp only at *
  generalize shapeB p wd = b1 at *
  generalize saltsB p ss = b2 at *
  cases b1
  · have HE := hide (unhide HE1 rfl)
    go_enter Try.func15, Try.ntmps15
    go_wp2_with fail
    generalize w.alloc (.cells #[.int .i64 p, .int .i64 wd, .slice A ss.length ca, .slice A2 bs.length cb] 26) = w2 at *
    refine (unhide K1).mono ?_
    rintro e w1 ⟨rfl, k, rfl⟩
    go_wp2
    go_ret
    exact ⟨by rw [unhide HE]; rfl, below_drewN (unhide HB) k⟩
  cases b2
  · have HE := hide (unhide HE2 rfl)
    go_enter Try.func15, Try.ntmps15
    go_wp2_with fail
    generalize w.alloc (.cells #[.int .i64 p, .int .i64 wd, .slice A ss.length ca, .slice A2 bs.length cb] 26) = w2 at *
    refine (unhide K1).mono ?_
    rintro e w1 ⟨rfl, k, rfl⟩
    go_wp2_with fail
    refine (unhide K2 k).mono ?_
    rintro e w1 ⟨rfl, b1⟩
    have B1 := hide (bl_st b1 (below_drewN (unhide HB) k))
    clear b1
    go_wp2
    go_ret
    exact ⟨by rw [unhide HE]; rfl, unhide B1⟩
  · have HE := hide (unhide HE3 rfl rfl)
    obtain ⟨z0, z1⟩ := unhide HI rfl rfl
    generalize hz : wd * (ss.length : Int) = z at *
    clear HE1 HE2 HE3 HI
    go_enter Try.func15, Try.ntmps15
    go_wp2_with fail
    generalize w.alloc (.cells #[.int .i64 p, .int .i64 wd, .slice A ss.length ca, .slice A2 bs.length cb] 26) = w2 at *
    refine (unhide K1).mono ?_
    rintro e w1 ⟨rfl, k, rfl⟩
    go_wp2_with fail
    refine (unhide K2 k).mono ?_
    rintro e w1 ⟨rfl, b1⟩
    have B1 := hide (bl_st b1 (below_drewN (unhide HB) k))
    obtain ⟨_, c0, c1, c2, c3⟩ := ((unhide HC).below (below_drewN (Below.refl _ _) k)).below b1
    clear b1 K1 K2 HC HB
    go_wp2
    all_goals
      go_ret
      exact ⟨by rw [unhide HE]; exact ret_bool (by first | rfl | (rw [Bool.eq_iff_iff]; simp; done) | (rw [Bool.eq_iff_iff]; simp; omega)), unhide B1⟩
theorem shape62 (p wd : Int) (w : World) : Calls Try.prog 62 #[.int .i64 p, .int .i64 wd] w fun e w' => e = .returned (.bool (shapeB p wd)) ∧ w' = w := by
  have K1 := hide (prime27 p w)
  have K2 := hide (fun m => in19 wd 1 m w)
  unfold shapeB
  generalize primeB p = bp at *
  cases bp
  · go_enter Try.func62, Try.ntmps62
    go_wp2_with fail
    refine (unhide K1).mono ?_
    rintro e w1 ⟨rfl, rfl⟩
    go_wp2
    go_ret
    exact ⟨rfl, rfl⟩
  · by_cases h64 : p ≤ 64
    · go_enter Try.func62, Try.ntmps62
      go_wp2_with fail
      refine (unhide K1).mono ?_
      rintro e w1 ⟨rfl, hw⟩
      have hw' := hw.symm
      subst hw'
      go_wp2_with fail
      refine (unhide K2 p).mono ?_
      rintro e w1 ⟨rfl, rfl⟩
      go_wp2
      go_ret
      exact ⟨ret_bool (by rw [Bool.eq_iff_iff]; simp; omega), rfl⟩
    · have h64' : 64 < p := by omega
      clear h64
      go_enter Try.func62, Try.ntmps62
      go_wp2_with fail
      refine (unhide K1).mono ?_
      rintro e w1 ⟨rfl, hw⟩
      have hw' := hw.symm
      subst hw'
      go_wp2_with fail
      refine (unhide K2 64).mono ?_
      rintro e w1 ⟨rfl, rfl⟩
      go_wp2
      go_ret
      exact ⟨ret_bool (by rw [Bool.eq_iff_iff]; simp; omega), rfl⟩
theorem inP_in (p n : Int) : (decide (0 ≤ n) && decide (n ≤ p - 1)) = inP p n := by
  unfold inP
  congr 1
  rw [decide_eq_decide]; omega
theorem salts66 (p : Int) (v : Value) (ss : List Slt) (w : World) (hv : saltsV w v ss) (hn : ss.length ≤ 2097152) (p2 : 2 ≤ p) (p9 : p ≤ 509) :
    Calls Try.prog 66 #[.int .i64 p, v] w fun e w' => e = .returned (.bool (saltsB p ss)) ∧ w' = w := by
  obtain ⟨A, cap, rfl, hc⟩ := hv
  have HC := hide hc
  have n0 : (0 : Int) ≤ (ss.length : Int) := by omega
  have n1 : (ss.length : Int) ≤ 2097152 := by omega
  have K1 := hide (in19 (ss.length : Int) 1 4 w)
  clear hc
  by_cases h : 1 ≤ ss.length ∧ ss.length ≤ 4
  · have HE := hide (saltsB_all (p := p) h.1 h.2)
    rw [decide_eq_true (show (1 : Int) ≤ (ss.length : Int) by omega), decide_eq_true (show (ss.length : Int) ≤ 4 by omega)] at K1
    clear h
    go_enter Try.func66, Try.ntmps66
    go_wp2_with fail
    refine (unhide K1).mono ?_
    rintro e w1 ⟨rfl, hw⟩
    have hw' := hw.symm
    subst hw'
    go_wp2
    go_loopw [5] (fun i wr => ∃ j : Nat, j ≤ ss.length ∧ i = .int .i64 j ∧ (ss.drop j).all (saltOK p) = ss.all (saltOK p) ∧ wr = w) (fun i _ => ss.length - (intOf i).toNat)
    case atStart => exact ⟨0, by omega, rfl, rfl, rfl⟩
    case round =>
      obtain ⟨j, hj, rfl, hu, rfl⟩ := hrel
      have HU := hide hu
      clear hu
      by_cases hlt : j < ss.length
      · obtain ⟨b1, off, hA, hl1, hcell⟩ := unhide HC (by omega)
        subst hA
        have q1 : (j : Int) < (ss.length : Int) := by omega
        have q0 : (0 : Int) ≤ (j : Int) := by omega
        have pc := hcell j hlt
        have HJ := hide hlt
        have HD := hide (drop_cons (d := noA) hlt)
        clear hcell hlt hj hl1
        generalize ss.getD j noA = sj at *
        obtain ⟨x, y⟩ := sj
        obtain ⟨c0, c1⟩ := pc
        dsimp only at c0 c1
        have K3 := hide (in19 x 0 (p - 1) wr)
        have K4 := hide (in19 y 0 (p - 1) wr)
        rw [inP_in] at K3 K4
        have hs : saltOK p (x, y) = (inP p x && inP p y) := rfl
        generalize inP p x = bx at *
        generalize inP p y = bY at *
        cases bx
        · have HF : Hid (saltsB p ss = false) := hide (by rw [unhide HE, ← unhide HU, unhide HD, List.all_cons, hs]; rfl)
          clear HU HD hs HE
          go_wp2_with fail
          refine (unhide K3).mono ?_
          rintro e w1 ⟨rfl, rfl⟩
          go_wp2
          go_ret
          exact ⟨by rw [unhide HF]; rfl, rfl⟩
        cases bY
        · have HF : Hid (saltsB p ss = false) := hide (by rw [unhide HE, ← unhide HU, unhide HD, List.all_cons, hs]; rfl)
          clear HU HD hs HE
          go_wp2_with fail
          refine (unhide K3).mono ?_
          rintro e w1 ⟨rfl, hw⟩
          have hw' := hw.symm
          subst hw'
          go_wp2_with fail
          refine (unhide K4).mono ?_
          rintro e w1 ⟨rfl, rfl⟩
          go_wp2
          go_ret
          exact ⟨by rw [unhide HF]; rfl, rfl⟩
        · have HF : Hid ((ss.drop (j + 1)).all (saltOK p) = ss.all (saltOK p)) := hide (by rw [← unhide HU, unhide HD, List.all_cons, hs]; rfl)
          clear HU HD hs
          go_wp2_with fail
          refine (unhide K3).mono ?_
          rintro e w1 ⟨rfl, hw⟩
          have hw' := hw.symm
          subst hw'
          go_wp2_with fail
          refine (unhide K4).mono ?_
          rintro e w1 ⟨rfl, hw⟩
          have hw' := hw.symm
          subst hw'
          go_wp2
          go_roundw
          case rel => exact ⟨j + 1, unhide HJ, by go_num, unhide HF, by first | rfl | trivial⟩
          case measure => have := unhide HJ; simp [intOf]; omega
      · obtain rfl : j = ss.length := by omega
        have HF : Hid (saltsB p ss = true) := hide (by rw [unhide HE, ← unhide HU, List.drop_length]; rfl)
        clear hlt HU
        go_wp2
        go_ret
        exact ⟨by rw [unhide HF]; rfl, rfl⟩
  · have HE : Hid (saltsB p ss = false) := hide (by
      by_cases h1 : ss.length < 1
      · exact saltsB_none h1
      · exact saltsB_many (by omega))
    rw [show (decide ((1 : Int) ≤ (ss.length : Int)) && decide ((ss.length : Int) ≤ 4)) = false by rw [← Bool.not_eq_true]; simp; omega] at K1
    clear h
    go_enter Try.func66, Try.ntmps66
    go_wp2_with fail
    refine (unhide K1).mono ?_
    rintro e w1 ⟨rfl, rfl⟩
    go_wp2
    go_ret
    exact ⟨by rw [unhide HE]; rfl, rfl⟩
end Go.Proofs.Ythckgccfjpgbaaa
