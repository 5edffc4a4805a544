/- Rounds that are right: both sides. -/
import Derived.Test.YtkefbmcipdiieaaTo
import Derived.Test.YtkefbmcipdiieaaMat
import Derived.Test.YtkefbmcipdiieaaBod
namespace Go.Proofs.Ytkefbmcipdiieaa
open Go.RowKit
set_option maxHeartbeats 4000000
set_option maxRecDepth 20000
def inR (lo hi n : Int) : Bool := decide (lo ≤ n) && decide (n ≤ hi)
def rtB (a d : Int) : Bool := inR 1 15 a && inR (a + 1) 16 d
def uB (x : Rs) : Bool := decide (x.p.length ≤ 4) && mtB x.p && decide (x.b.length = x.p.length) && x.b.all isB
def cB (x : Rs) : Bool := inR (-1) (x.ly - 1) x.c && inR 0 16 x.t
/-- a round that is right -/
def okR (x : Rs) : Bool := isK x.s && inR 0 1000000 x.rd && inR 1 2 x.ly && uB x && inR 0 1 x.m && rtB x.a x.d && cB x
theorem in11 (n lo hi : Int) (w : World) : Calls Try.prog 11 #[.int .i64 n, .int .i64 lo, .int .i64 hi] w fun e w' => e = .returned (.bool (inR lo hi n)) ∧ w' = w := in19 n lo hi w
theorem round17 (n : Int) (w : World) : Calls Try.prog 17 #[.int .i64 n] w fun e w' => e = .returned (.bool (inR 0 1000000 n)) ∧ w' = w := by
  go_enter Try.func17, Try.ntmps17
  go_wp2
  all_goals
    go_ret
    exact ⟨ret_bool (by unfold inR; rw [Bool.eq_iff_iff]; simp; try omega), rfl⟩
theorem ratio19 (a d : Int) (w : World) : Calls Try.prog 19 #[.int .i64 a, .int .i64 d] w fun e w' => e = .returned (.bool (rtB a d)) ∧ w' = w := by
  go_enter Try.func19, Try.ntmps19
  go_wp2
  all_goals
    go_ret
    exact ⟨ret_bool (by unfold rtB inR; rw [Bool.eq_iff_iff]; simp; try omega), rfl⟩
theorem inR_mem {lo hi n : Int} (h : inR lo hi n = true) : lo ≤ n ∧ n ≤ hi := by
  unfold inR at h; simpa using h
theorem ratio13 (a d : Int) (w : World) : Calls Try.prog 13 #[.int .i64 a, .int .i64 d] w fun e w' => e = .returned (.bool (rtB a d)) ∧ w' = w := by
  go_enter Try.func13, Try.ntmps13
  go_wp2_with fail
  refine (in11 _ _ _ _).mono ?_
  rintro e w1 ⟨rfl, hw⟩
  have hw2 := hw.symm
  subst hw2
  generalize hb : inR 1 15 a = b1
  cases b1
  · have HF : Hid (rtB a d = false) := hide (by unfold rtB; rw [hb]; rfl)
    clear hb
    go_wp2
    go_ret
    exact ⟨ret_bool (unhide HF).symm, rfl⟩
  · have HF : Hid (rtB a d = inR (a + 1) 16 d) := hide (by unfold rtB; rw [hb]; rfl)
    have h1 := (inR_mem hb).1
    have h2 := (inR_mem hb).2
    clear hb
    go_wp2_with fail
    refine (in11 _ _ _ _).mono ?_
    rintro e w1 ⟨rfl, hw⟩
    have hw2 := hw.symm
    subst hw2
    generalize inR (a + 1) 16 d = b2 at *
    cases b2
    all_goals
      go_wp2
      go_ret
      exact ⟨ret_bool (unhide HF).symm, rfl⟩
theorem okR_all {x : Rs} (h1 : isK x.s = true) (h2 : inR 0 1000000 x.rd = true) (h3 : inR 1 2 x.ly = true) (h4 : mtB x.p = true) (h5 : x.p.length ≤ 4) (h6 : x.b.length = x.p.length) (h7 : inR 0 1 x.m = true) (h8 : rtB x.a x.d = true) (h9 : inR (-1) (x.ly - 1) x.c = true) (h10 : inR 0 16 x.t = true) : okR x = x.b.all isB := by
  unfold okR uB cB
  rw [h1, h2, h3, h4, h7, h8, h9, h10, decide_eq_true h5, decide_eq_true h6]
  simp
theorem ok5 (v : Value) (x : Rs) (w : World) (hv : rsV w v x) (h1 : x.p.length ≤ 1048576) (h2 : x.b.length ≤ 1048576) :
    Calls Try.prog 5 #[v] w fun e w' => e = .returned (.bool (okR x)) ∧ Below w.heap.size w w' := by
  obtain ⟨p, b, rfl, hp, hb⟩ := hv
  obtain ⟨s, rd, ly, xp, xb, m, a, d, c, t⟩ := x
  dsimp only at h1 h2 hp hb
  have n0 : (0 : Int) ≤ (xp.length : Int) := by omega
  have n1 : (xp.length : Int) ≤ 1048576 := by omega
  have n2 : (0 : Int) ≤ (xb.length : Int) := by omega
  have n3 : (xb.length : Int) ≤ 1048576 := by omega
  have B0 : Below w.heap.size w (w.alloc (.cells #[.string s, .int .i64 rd, .int .i64 ly, p, b, .int .i64 m, .int .i64 a, .int .i64 d, .int .i64 c, .int .i64 t] 28)) := bl_al (Below.refl _ _)
  have KM := hide (match27 p xp _ (hp.below B0) h1)
  have HS := hide (hb.below B0)
  obtain ⟨_, c0, c1, c2, c3, c4, c5, c6, c7, c8, c9⟩ := rc_new w s rd ly p b m a d c t 28
  have HB0 := hide B0
  have HALL := hide (@okR_all ⟨s, rd, ly, xp, xb, m, a, d, c, t⟩)
  dsimp only at HALL
  have FF : Hid (isK s = false ∨ inR 0 1000000 rd = false ∨ inR 1 2 ly = false ∨ mtB xp = false ∨ ¬ xp.length ≤ 4 ∨ ¬ xb.length = xp.length ∨ inR 0 1 m = false ∨ rtB a d = false ∨ inR (-1) (ly - 1) c = false ∨ inR 0 16 t = false ∨ xb.all isB = false → okR ⟨s, rd, ly, xp, xb, m, a, d, c, t⟩ = false) := hide (by
    intro h
    unfold okR uB cB
    dsimp only
    rcases h with h | h | h | h | h | h | h | h | h | h | h
    all_goals first | (rw [h]; simp) | (rw [decide_eq_false h]; simp))
  generalize okR ⟨s, rd, ly, xp, xb, m, a, d, c, t⟩ = R at *
  obtain ⟨A1, d1, rfl⟩ := hp.slice
  obtain ⟨A2, d2, rfl⟩ := hb.slice
  have HQ := hide hb
  clear B0 hp hb h1 h2 HQ
  by_cases g1 : s.size = 32
  rotate_left
  · have HF : Hid (R = false) := hide (unhide FF (.inl (by unfold isK; exact decide_eq_false g1)))
    have g2 : ¬ (s.size : Int) = 32 := by omega
    have g3 : ((s.size : Int) = 32) = False := by simp; omega
    clear g1 FF HALL KM HS
    go_enter Try.func5, Try.ntmps5
    go_wp2
    try (rotate_left; (exfalso; simp_all); done)
    go_ret
    exact ⟨ret_bool (unhide HF).symm, unhide HB0⟩
  have G1 := hide (show isK s = true from decide_eq_true g1)
  have g2 : (s.size : Int) = 32 := by omega
  clear g1
  go_enter Try.func5, Try.ntmps5
  go_wp2_with fail
  refine (in11 _ _ _ _).mono ?_
  rintro e w1 ⟨rfl, hw⟩
  have hw2 := hw.symm
  subst hw2
  generalize hb2 : inR 0 1000000 rd = b2
  cases b2
  · have HF : Hid (R = false) := hide (unhide FF (.inr (.inl hb2)))
    clear hb2 FF HALL KM HS
    go_wp2
    go_ret
    exact ⟨ret_bool (unhide HF).symm, unhide HB0⟩
  have G2 := hide hb2
  clear hb2
  go_wp2_with fail
  refine (in11 _ _ _ _).mono ?_
  rintro e w1 ⟨rfl, hw⟩
  have hw2 := hw.symm
  subst hw2
  generalize hb3 : inR 1 2 ly = b3
  cases b3
  · have HF : Hid (R = false) := hide (unhide FF (.inr (.inr (.inl hb3))))
    clear hb3 FF HALL KM HS
    go_wp2
    go_ret
    exact ⟨ret_bool (unhide HF).symm, unhide HB0⟩
  have G3 := hide hb3
  have y1 := (inR_mem hb3).1
  have y2 := (inR_mem hb3).2
  clear hb3
  go_wp2_with fail
  refine (unhide KM).mono ?_
  rintro e w1 ⟨rfl, hw⟩
  have hw2 := hw.symm
  subst hw2
  generalize hb4 : mtB xp = b4
  cases b4
  · have HF : Hid (R = false) := hide (unhide FF (.inr (.inr (.inr (.inl hb4)))))
    clear hb4 FF HALL KM HS
    go_wp2
    go_ret
    exact ⟨ret_bool (unhide HF).symm, unhide HB0⟩
  have G4 := hide hb4
  clear hb4 KM
  by_cases g5 : xp.length ≤ 4
  rotate_left
  · have HF : Hid (R = false) := hide (unhide FF (.inr (.inr (.inr (.inr (.inl g5))))))
    have q : (4 : Int) < (xp.length : Int) := by omega
    clear g5 FF HALL HS
    go_wp2
    go_ret
    exact ⟨ret_bool (unhide HF).symm, unhide HB0⟩
  have G5 := hide g5
  have q5 : (xp.length : Int) ≤ 4 := by omega
  have q5b : (4 < xp.length) = False := by simp; omega
  have q5c : decide (4 < xp.length) = false := decide_eq_false (by omega)
  have q5d : decide ((4 : Int) < (xp.length : Int)) = false := decide_eq_false (by omega)
  clear g5
  by_cases g6 : xb.length = xp.length
  rotate_left
  · have HF : Hid (R = false) := hide (unhide FF (.inr (.inr (.inr (.inr (.inr (.inl g6)))))))
    have q : ¬ (xb.length : Int) = (xp.length : Int) := by omega
    have q2 : ((xb.length : Int) = (xp.length : Int)) = False := by simp; omega
    have q3 : (xb.length = xp.length) = False := by simp; omega
    clear g6 FF HALL HS
    go_wp2
    try (rotate_left; (exfalso; simp_all); done)
    go_ret
    exact ⟨ret_bool (unhide HF).symm, unhide HB0⟩
  have G6 := hide g6
  have q6 : (xb.length : Int) = (xp.length : Int) := by omega
  clear g6
  go_wp2_with fail
  refine (in11 _ _ _ _).mono ?_
  rintro e w1 ⟨rfl, hw⟩
  have hw2 := hw.symm
  subst hw2
  generalize hb7 : inR 0 1 m = b7
  cases b7
  · have HF : Hid (R = false) := hide (unhide FF (.inr (.inr (.inr (.inr (.inr (.inr (.inl hb7))))))))
    clear hb7 FF HALL HS
    go_wp2
    go_ret
    exact ⟨ret_bool (unhide HF).symm, unhide HB0⟩
  have G7 := hide hb7
  clear hb7
  go_wp2_with fail
  refine (ratio13 _ _ _).mono ?_
  rintro e w1 ⟨rfl, hw⟩
  have hw2 := hw.symm
  subst hw2
  generalize hb8 : rtB a d = b8
  cases b8
  · have HF : Hid (R = false) := hide (unhide FF (.inr (.inr (.inr (.inr (.inr (.inr (.inr (.inl hb8)))))))))
    clear hb8 FF HALL HS
    go_wp2
    go_ret
    exact ⟨ret_bool (unhide HF).symm, unhide HB0⟩
  have G8 := hide hb8
  clear hb8
  go_wp2_with fail
  refine (in11 _ _ _ _).mono ?_
  rintro e w1 ⟨rfl, hw⟩
  have hw2 := hw.symm
  subst hw2
  generalize hb9 : inR (-1) (ly - 1) c = b9
  cases b9
  · have HF : Hid (R = false) := hide (unhide FF (.inr (.inr (.inr (.inr (.inr (.inr (.inr (.inr (.inl hb9))))))))))
    clear hb9 FF HALL HS
    go_wp2
    go_ret
    exact ⟨ret_bool (unhide HF).symm, unhide HB0⟩
  have G9 := hide hb9
  clear hb9
  go_wp2_with fail
  refine (in11 _ _ _ _).mono ?_
  rintro e w1 ⟨rfl, hw⟩
  have hw2 := hw.symm
  subst hw2
  generalize hb10 : inR 0 16 t = b10
  cases b10
  · have HF : Hid (R = false) := hide (unhide FF (.inr (.inr (.inr (.inr (.inr (.inr (.inr (.inr (.inr (.inl hb10)))))))))))
    clear hb10 FF HALL HS
    go_wp2
    go_ret
    exact ⟨ret_bool (unhide HF).symm, unhide HB0⟩
  have G10 := hide hb10
  clear hb10
  have HR : Hid (R = xb.all isB) := hide (unhide HALL (unhide G1) (unhide G2) (unhide G3) (unhide G4) (unhide G5) (unhide G6) (unhide G7) (unhide G8) (unhide G9) (unhide G10))
  clear HALL FF G1 G2 G3 G4 G5 G6 G7 G8 G9 G10
  go_wp2
  clear g2 q5 q5b q5c q5d q6 y1 y2
  generalize w.alloc (.cells #[.string s, .int .i64 rd, .int .i64 ly, .slice A1 xp.length d1, .slice A2 xb.length d2, .int .i64 m, .int .i64 a, .int .i64 d, .int .i64 c, .int .i64 t] 28) = w0 at *
  go_loopw [3] (fun i wr => ∃ j : Nat, j ≤ xb.length ∧ i = .int .i64 j ∧ (∀ i, i < j → isB (xb.getD i noS) = true) ∧ wr = w0) (fun i _ => xb.length - (intOf i).toNat)
  case atStart => exact ⟨0, by omega, rfl, fun k hk => absurd hk (Nat.not_lt_zero k), rfl⟩
  case round =>
    obtain ⟨j, hj, rfl, hg, hwr⟩ := hrel
    subst hwr
    by_cases hlt : j < xb.length
    · obtain ⟨A, cap, hA, hcell⟩ := unhide HS
      obtain ⟨hA1, hA2, hA3⟩ : A2 = A ∧ True ∧ d2 = cap := by simpa using hA
      subst hA1 hA3
      obtain ⟨b, off, hA4, hbb, hcell2⟩ := hcell (by omega)
      subst hA4
      have q1 : (j : Int) < (xb.length : Int) := by omega
      have q0 : (0 : Int) ≤ (j : Int) := by omega
      have p0 := hcell2 j hlt
      have HJ := hide hlt
      have HG := hide hg
      clear hcell hcell2 hlt hj hbb hg hA2 hA
      generalize hx : xb.getD j noS = x at *
      by_cases h8 : x.size ≤ 20
      · have HX : Hid (isB (xb.getD j noS) = true) := hide (by rw [hx]; exact decide_eq_true h8)
        have h9 : (x.size : Int) ≤ 20 := by omega
        clear hx h8
        go_wp2
        go_roundw
        case rel => exact ⟨j + 1, unhide HJ, by go_num, fun k hk => by rcases Nat.lt_succ_iff_lt_or_eq.1 hk with h | h; exact unhide HG k h; rw [h]; exact unhide HX, by first | rfl | trivial⟩
        case measure => have := unhide HJ; simp [intOf]; omega
      · have HE : Hid (R = false) := hide (by rw [unhide HR, all_no j (unhide HJ) (by rw [hx]; exact decide_eq_false h8)])
        have h9 : (20 : Int) < (x.size : Int) := by omega
        clear hx h8
        go_wp2
        go_ret
        exact ⟨ret_bool (unhide HE).symm, unhide HB0⟩
    · obtain rfl : j = xb.length := by omega
      have HE : Hid (R = true) := hide (by rw [unhide HR, all_yes hg])
      clear hg hlt
      go_wp2
      go_ret
      exact ⟨ret_bool (unhide HE).symm, unhide HB0⟩
end Go.Proofs.Ytkefbmcipdiieaa
