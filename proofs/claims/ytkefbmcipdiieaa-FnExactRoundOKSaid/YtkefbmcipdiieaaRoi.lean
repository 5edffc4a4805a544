/- Rounds that are right: the program's side. -/
import Derived.Test.YtkefbmcipdiieaaRok
namespace Go.Proofs.Ytkefbmcipdiieaa
open Go.RowKit
set_option maxHeartbeats 4000000
set_option maxRecDepth 20000
theorem cut20 (v : Value) (x : Rs) (w : World) (hv : rsV w v x) (h1 : 1 ≤ x.ly) (h2 : x.ly ≤ 2) :
    Calls Try.prog 20 #[v] w fun e w' => e = .returned (.bool (cB x)) ∧ Below w.heap.size w w' := by
  obtain ⟨p, b, rfl, hp, hb⟩ := hv
  obtain ⟨s, rd, ly, xp, xb, m, a, d, c, t⟩ := x
  dsimp only at h1 h2 hp hb
  have HB0 : Hid (Below w.heap.size w (w.alloc (.cells #[.string s, .int .i64 rd, .int .i64 ly, p, b, .int .i64 m, .int .i64 a, .int .i64 d, .int .i64 c, .int .i64 t] 28))) := hide (bl_al (Below.refl _ _))
  have HC : Hid (cB ⟨s, rd, ly, xp, xb, m, a, d, c, t⟩ = (decide (-1 ≤ c) && decide (c < ly) && decide (0 ≤ t) && decide (t ≤ 16))) := hide (by unfold cB inR; rw [Bool.eq_iff_iff]; simp; omega)
  obtain ⟨_, c0, c1, c2, c3, c4, c5, c6, c7, c8, c9⟩ := rc_new w s rd ly p b m a d c t 28
  obtain ⟨A1, d1, rfl⟩ := hp.slice
  obtain ⟨A2, d2, rfl⟩ := hb.slice
  clear hp hb
  go_enter Try.func20, Try.ntmps20
  go_wp2
  all_goals
    go_ret
    exact ⟨ret_bool (by rw [unhide HC, Bool.eq_iff_iff]; simp; try omega), unhide HB0⟩
theorem users18 (v : Value) (x : Rs) (w : World) (hv : rsV w v x) (h1 : x.p.length ≤ 1048576) (h2 : x.b.length ≤ 1048576) :
    Calls Try.prog 18 #[v] w fun e w' => e = .returned (.bool (uB x)) ∧ Below w.heap.size w w' := by
  obtain ⟨p, b, rfl, hp, hb⟩ := hv
  obtain ⟨s, rd, ly, xp, xb, m, a, d, c, t⟩ := x
  dsimp only at h1 h2 hp hb
  have n0 : (0 : Int) ≤ (xp.length : Int) := by omega
  have n1 : (xp.length : Int) ≤ 1048576 := by omega
  have n2 : (0 : Int) ≤ (xb.length : Int) := by omega
  have n3 : (xb.length : Int) ≤ 1048576 := by omega
  have B0 : Below w.heap.size w (w.alloc (.cells #[.string s, .int .i64 rd, .int .i64 ly, p, b, .int .i64 m, .int .i64 a, .int .i64 d, .int .i64 c, .int .i64 t] 28)) := bl_al (Below.refl _ _)
  have KM := hide (match29 p xp _ (hp.below B0) h1)
  have KB := hide (has25 b xb _ (hb.below B0) (by omega))
  have HB0 := hide B0
  have HU : Hid (uB ⟨s, rd, ly, xp, xb, m, a, d, c, t⟩ = (decide (xp.length ≤ 4) && mtB xp && decide (xb.length = xp.length) && xb.all isB)) := hide rfl
  generalize uB ⟨s, rd, ly, xp, xb, m, a, d, c, t⟩ = R at *
  obtain ⟨_, c0, c1, c2, c3, c4, c5, c6, c7, c8, c9⟩ := rc_new w s rd ly p b m a d c t 28
  obtain ⟨A1, d1, rfl⟩ := hp.slice
  obtain ⟨A2, d2, rfl⟩ := hb.slice
  clear hp hb B0 h1 h2
  by_cases g5 : xp.length ≤ 4
  rotate_left
  · have HF : Hid (R = false) := hide (by rw [unhide HU, decide_eq_false g5]; rfl)
    have q : (4 : Int) < (xp.length : Int) := by omega
    clear g5 KM KB HU
    go_enter Try.func18, Try.ntmps18
    go_wp2
    go_ret
    exact ⟨ret_bool (unhide HF).symm, unhide HB0⟩
  rw [decide_eq_true g5, Bool.true_and] at HU
  have q5 : (xp.length : Int) ≤ 4 := by omega
  clear g5
  go_enter Try.func18, Try.ntmps18
  go_wp2_with fail
  refine (unhide KM).mono ?_
  rintro e w1 ⟨rfl, hw⟩
  have hw2 := hw.symm
  subst hw2
  clear KM
  generalize mtB xp = bm at *
  cases bm
  · have HF : Hid (R = false) := hide (by rw [unhide HU]; simp)
    clear HU KB
    go_wp2
    go_ret
    exact ⟨ret_bool (unhide HF).symm, unhide HB0⟩
  rw [Bool.true_and] at HU
  by_cases g6 : xb.length = xp.length
  rotate_left
  · have HF : Hid (R = false) := hide (by rw [unhide HU, decide_eq_false g6]; rfl)
    have q : ¬ (xb.length : Int) = (xp.length : Int) := by omega
    have q2 : ((xb.length : Int) = (xp.length : Int)) = False := by simp; omega
    have q3 : (xb.length = xp.length) = False := by simp; omega
    clear g6 HU KB
    go_wp2
    try (rotate_left; (exfalso; simp_all); done)
    go_ret
    exact ⟨ret_bool (unhide HF).symm, unhide HB0⟩
  rw [decide_eq_true g6, Bool.true_and] at HU
  have q6 : (xb.length : Int) = (xp.length : Int) := by omega
  clear g6
  go_wp2_with fail
  refine (unhide KB).mono ?_
  rintro e w1 ⟨rfl, hw⟩
  have hw2 := hw.symm
  subst hw2
  clear KB
  generalize xb.all isB = bb at *
  cases bb
  all_goals
    go_wp2
    go_ret
    exact ⟨ret_bool (unhide HU).symm, unhide HB0⟩
theorem ok7 (v : Value) (x : Rs) (w : World) (hv : rsV w v x) (h1 : x.p.length ≤ 1048576) (h2 : x.b.length ≤ 1048576) :
    Calls Try.prog 7 #[v] w fun e w' => e = .returned (.bool (okR x)) ∧ Below w.heap.size w w' := by
  obtain ⟨p, b, rfl, hp, hb⟩ := hv
  have B0 : Below w.heap.size w (w.alloc (.cells #[.string x.s, .int .i64 x.rd, .int .i64 x.ly, p, b, .int .i64 x.m, .int .i64 x.a, .int .i64 x.d, .int .i64 x.c, .int .i64 x.t] 28)) := bl_al (Below.refl _ _)
  have hv : rsV w (rsA x.s x.rd x.ly p b x.m x.a x.d x.c x.t) x := ⟨p, b, rfl, hp, hb⟩
  have KU := hide (users18 _ x _ (hv.below B0) h1 h2)
  have KC := hide (fun g1 g2 W (h : rsV W (rsA x.s x.rd x.ly p b x.m x.a x.d x.c x.t) x) => cut20 _ x W h g1 g2)
  have HV := hide (hv.below B0)
  have HO : Hid (okR x = (isK x.s && inR 0 1000000 x.rd && inR 1 2 x.ly && uB x && inR 0 1 x.m && rtB x.a x.d && cB x)) := hide rfl
  have HR0 := hide (rc_new w x.s x.rd x.ly p b x.m x.a x.d x.c x.t 28)
  generalize okR x = R at *
  generalize uB x = U at *
  generalize cB x = C at *
  have HB0 := hide B0
  clear B0 hv h1 h2
  obtain ⟨s, rd, ly, xp, xb, m, a, d, c, t⟩ := x
  dsimp only at *
  obtain ⟨A1, d1, rfl⟩ := hp.slice
  obtain ⟨A2, d2, rfl⟩ := hb.slice
  clear hp hb
  obtain ⟨_, c0, c1, c2, c3, c4, c5, c6, c7, c8, c9⟩ := unhide HR0
  go_enter Try.func7, Try.ntmps7
  go_wp2_with fail
  refine (no53 _ _).mono ?_
  rintro e w1 ⟨rfl, hw⟩
  have hw2 := hw.symm
  subst hw2
  generalize hb1 : isK s = b1 at HO ⊢
  cases b1
  · have HF : Hid (R = false) := hide (by rw [unhide HO]; simp)
    clear HO hb1 KU KC
    go_wp2
    go_ret
    exact ⟨ret_bool (unhide HF).symm, unhide HB0⟩
  simp only [Bool.true_and] at HO
  clear hb1
  go_wp2_with fail
  refine (round17 _ _).mono ?_
  rintro e w1 ⟨rfl, hw⟩
  have hw2 := hw.symm
  subst hw2
  generalize hb2 : inR 0 1000000 rd = b2 at HO ⊢
  cases b2
  · have HF : Hid (R = false) := hide (by rw [unhide HO]; simp)
    clear HO hb2 KU KC
    go_wp2
    go_ret
    exact ⟨ret_bool (unhide HF).symm, unhide HB0⟩
  simp only [Bool.true_and] at HO
  clear hb2
  by_cases g1 : 1 ≤ ly
  rotate_left
  · have HF : Hid (R = false) := hide (by rw [unhide HO]; unfold inR; rw [decide_eq_false g1]; simp)
    have g2 : ly < 1 := by omega
    clear HO g1 KU KC
    go_wp2
    go_ret
    exact ⟨ret_bool (unhide HF).symm, unhide HB0⟩
  by_cases g2 : ly ≤ 2
  rotate_left
  · have HF : Hid (R = false) := hide (by rw [unhide HO]; unfold inR; rw [decide_eq_false g2]; simp)
    have g3 : 2 < ly := by omega
    clear HO g2 KU KC
    go_wp2
    go_ret
    exact ⟨ret_bool (unhide HF).symm, unhide HB0⟩
  have HI : Hid (inR 1 2 ly = true) := hide (by unfold inR; rw [decide_eq_true g1, decide_eq_true g2]; rfl)
  rw [unhide HI, Bool.true_and] at HO
  clear HI
  go_wp2_with fail
  generalize w.alloc (.cells #[.string s, .int .i64 rd, .int .i64 ly, .slice A1 xp.length d1, .slice A2 xb.length d2, .int .i64 m, .int .i64 a, .int .i64 d, .int .i64 c, .int .i64 t] 28) = w0 at *
  refine (unhide KU).mono ?_
  rintro e w1 ⟨rfl, b1⟩
  have R1 := (unhide HR0).below b1
  have HB1 := hide (bl_st b1 (unhide HB0))
  have HV1 := hide ((unhide HV).below b1)
  clear b1 HB0 HR0 HV c0 c1 c2 c3 c4 c5 c6 c7 c8 c9 KU
  have KC2 := hide (unhide KC g1 g2 w1 (unhide HV1))
  clear KC HV1
  obtain ⟨_, c0, c1, c2, c3, c4, c5, c6, c7, c8, c9⟩ := R1
  cases U
  · have HF : Hid (R = false) := hide (by rw [unhide HO]; simp)
    clear HO KC2
    go_wp2
    go_ret
    exact ⟨ret_bool (unhide HF).symm, unhide HB1⟩
  rw [Bool.true_and] at HO
  by_cases g3 : 0 ≤ m
  rotate_left
  · have HF : Hid (R = false) := hide (by rw [unhide HO]; unfold inR; rw [decide_eq_false g3]; simp)
    have g4 : m < 0 := by omega
    clear HO g3 KC2
    go_wp2
    go_ret
    exact ⟨ret_bool (unhide HF).symm, unhide HB1⟩
  by_cases g4 : m ≤ 1
  rotate_left
  · have HF : Hid (R = false) := hide (by rw [unhide HO]; unfold inR; rw [decide_eq_false g4]; simp)
    have g5 : 1 < m := by omega
    clear HO g4 KC2
    go_wp2
    go_ret
    exact ⟨ret_bool (unhide HF).symm, unhide HB1⟩
  have HI : Hid (inR 0 1 m = true) := hide (by unfold inR; rw [decide_eq_true g3, decide_eq_true g4]; rfl)
  rw [unhide HI, Bool.true_and] at HO
  clear HI
  go_wp2_with fail
  refine (ratio19 _ _ _).mono ?_
  rintro e w1 ⟨rfl, hw⟩
  have hw2 := hw.symm
  subst hw2
  generalize hb8 : rtB a d = b8 at HO ⊢
  cases b8
  · have HF : Hid (R = false) := hide (by rw [unhide HO]; simp)
    clear HO hb8 KC2
    go_wp2
    go_ret
    exact ⟨ret_bool (unhide HF).symm, unhide HB1⟩
  simp only [Bool.true_and] at HO
  clear hb8
  go_wp2_with fail
  refine (unhide KC2).mono ?_
  rintro e w2 ⟨rfl, b2⟩
  have HB2 := hide (bl_st b2 (unhide HB1))
  clear b2 HB1 KC2 c0 c1 c2 c3 c4 c5 c6 c7 c8 c9
  cases C
  all_goals
    go_wp2
    go_ret
    exact ⟨ret_bool (unhide HO).symm, unhide HB2⟩
end Go.Proofs.Ytkefbmcipdiieaa
