/- Right filters: the specification's side; the codes of a tag; the law of BloomOK. -/
import Derived.Test.YthckgccfjpgbaaaOkt
namespace Go.Proofs.Ythckgccfjpgbaaa
open Go.RowKit
set_option maxHeartbeats 4000000
set_option maxRecDepth 20000
theorem ok37 (v : Value) (x : Blm) (w : World) (hv : blmV w v x) (hn : x.s.length ≤ 2097152) (hn' : x.b.length ≤ 2097152) :
    Calls Try.prog 37 #[v] w fun e w' => e = .returned (.bool (okX x)) ∧ Below w.heap.size w w' := by
  obtain ⟨a, b, rfl, ha, hb⟩ := hv
  have B1 : Below w.heap.size w (w.alloc (.cells #[.int .i64 x.p, .int .i64 x.w, a, b] 26)) := bl_al (Below.refl _ _)
  have C := bc_new w x.p x.w a b 26
  have K1 := hide (shape62 x.p x.w (w.alloc (.cells #[.int .i64 x.p, .int .i64 x.w, a, b] 26)))
  have K2 := hide (fun h2 h9 => salts66 x.p a x.s _ (ha.below B1) hn h2 h9)
  have HB := hide B1
  obtain ⟨A, ca, rfl⟩ := ha.slice
  obtain ⟨A2, cb, rfl⟩ := hb.slice
  clear B1 ha hb
  have HE1 := hide (fun h => okX_no (x := x) h)
  have HE2 := hide (fun h => okX_no2 (x := x) h)
  have HE3 := hide (fun h h2 => okX_is (x := x) h h2)
  have HP : Hid (shapeB x.p x.w = true → 2 ≤ x.p ∧ x.p ≤ 509) := hide fun h => by have := shapeB_in h; omega
  have HI : Hid (shapeB x.p x.w = true → saltsB x.p x.s = true → 0 ≤ x.w * (x.s.length : Int) ∧ x.w * (x.s.length : Int) ≤ 256) := hide fun h h2 => by
    have e1 := shapeB_in h
    have e2 := saltsB_len h2
    exact mul_in (by omega) (by omega) (by omega) (by omega)
  have n0 : (0 : Int) ≤ (x.s.length : Int) := by omega
  have n1 : (x.s.length : Int) ≤ 2097152 := by omega
  have m0 : (0 : Int) ≤ (x.b.length : Int) := by omega
  have m1 : (x.b.length : Int) ≤ 2097152 := by omega
  clear hn hn'
  obtain ⟨p, wd, ss, bs⟩ := x
  dsimp only at *
  obtain ⟨_, c0, c1, c2, c3⟩ := C
  generalize shapeB p wd = b1 at *
  generalize saltsB p ss = b2 at *
  cases b1
  · have HE := hide (unhide HE1 rfl)
    go_enter Try.func37, Try.ntmps37
    go_wp2_with fail
    refine (unhide K1).mono ?_
    rintro e w1 ⟨rfl, rfl⟩
    go_wp2
    go_ret
    exact ⟨by rw [unhide HE]; rfl, unhide HB⟩
  have hp := unhide HP rfl
  have K3 := hide (unhide K2 hp.1 hp.2)
  clear K2 hp HP
  cases b2
  · have HE := hide (unhide HE2 rfl)
    go_enter Try.func37, Try.ntmps37
    go_wp2_with fail
    refine (unhide K1).mono ?_
    rintro e w1 ⟨rfl, rfl⟩
    go_wp2_with fail
    refine (unhide K3).mono ?_
    rintro e w1 ⟨rfl, rfl⟩
    go_wp2
    go_ret
    exact ⟨by rw [unhide HE]; rfl, unhide HB⟩
  · have HE := hide (unhide HE3 rfl rfl)
    obtain ⟨z0, z1⟩ := unhide HI rfl rfl
    generalize hz : wd * (ss.length : Int) = z at *
    clear HE1 HE2 HE3 HI
    go_enter Try.func37, Try.ntmps37
    go_wp2_with fail
    refine (unhide K1).mono ?_
    rintro e w1 ⟨rfl, rfl⟩
    go_wp2_with fail
    refine (unhide K3).mono ?_
    rintro e w1 ⟨rfl, rfl⟩
    go_wp2
    all_goals
      go_ret
      exact ⟨by rw [unhide HE]; exact ret_bool (by first | rfl | (rw [Bool.eq_iff_iff]; simp; done) | (rw [Bool.eq_iff_iff]; simp; omega)), unhide HB⟩
def tagC (x : Blm) (tag : Int) : Int := if okX x then (if inP x.p tag then 0 else 4) else 1
theorem okX_p {x : Blm} (h : okX x = true) : 2 ≤ x.p ∧ x.p ≤ 509 := by
  unfold okX at h
  simp only [Bool.and_eq_true] at h
  have := shapeB_in h.1.1
  omega
theorem code49 (v : Value) (x : Blm) (tag : Int) (w : World) (hv : blmV w v x) (hn : x.s.length ≤ 2097152) (hn' : x.b.length ≤ 2097152) :
    Calls Try.prog 49 #[v, .int .i64 tag] w fun e w' => e = .returned (.int .i64 (tagC x tag)) ∧ Below w.heap.size w w' := by
  obtain ⟨a, b, rfl, ha, hb⟩ := hv
  have B1 : Below w.heap.size w (w.alloc (.cells #[.int .i64 x.p, .int .i64 x.w, a, b] 26)) := bl_al (Below.refl _ _)
  have C := bc_new w x.p x.w a b 26
  have K1 := hide (ok15 (bloV x.p x.w a b) x _ ⟨a, b, rfl, ha.below B1, hb.below B1⟩ hn hn')
  have K2 := hide (fun W h => below79 w.heap.size x.p x.w tag a b W h)
  have HC := hide C
  have HB := hide B1
  obtain ⟨A, ca, rfl⟩ := ha.slice
  obtain ⟨A2, cb, rfl⟩ := hb.slice
  clear B1 ha hb hn hn'
  have HP := hide (fun h => okX_p (x := x) h)
  unfold tagC
  obtain ⟨_, c0, c1, c2, c3⟩ := C
  generalize hok : okX x = b1 at *
  obtain ⟨p, wd, ss, bs⟩ := x
  dsimp only at *
  generalize inP p tag = b2 at *
  clear hok
  cases b1
  · go_enter Try.func49, Try.ntmps49
    go_wp2_with fail
    generalize w.alloc (.cells #[.int .i64 p, .int .i64 wd, .slice A ss.length ca, .slice A2 bs.length cb] 26) = w2 at *
    refine (unhide K1).mono ?_
    rintro e w1 ⟨rfl, b1⟩
    have B1 := hide (bl_st b1 (unhide HB))
    clear b1
    go_wp2
    go_ret
    exact ⟨rfl, unhide B1⟩
  obtain ⟨p2, p9⟩ := unhide HP rfl
  clear HP
  cases b2
  all_goals
    go_enter Try.func49, Try.ntmps49
    go_wp2_with fail
    generalize w.alloc (.cells #[.int .i64 p, .int .i64 wd, .slice A ss.length ca, .slice A2 bs.length cb] 26) = w2 at *
    refine (unhide K1).mono ?_
    rintro e w1 ⟨rfl, b1⟩
    have B1 := hide (bl_st b1 (unhide HB))
    have C1 := hide ((unhide HC).below b1)
    clear b1 c0 c1 c2 c3
    obtain ⟨_, c0, c1, c2, c3⟩ := unhide C1
    go_wp2_with fail
    refine (unhide K2 w1 (unhide C1)).mono ?_
    rintro e w2 ⟨rfl, rfl⟩
    go_wp2
    go_ret
    exact ⟨rfl, unhide B1⟩
theorem code53 (v : Value) (x : Blm) (tag : Int) (w : World) (hv : blmV w v x) (hn : x.s.length ≤ 2097152) (hn' : x.b.length ≤ 2097152) :
    Calls Try.prog 53 #[v, .int .i64 tag] w fun e w' => e = .returned (.int .i64 (tagC x tag)) ∧ Below w.heap.size w w' := by
  obtain ⟨a, b, rfl, ha, hb⟩ := hv
  have B1 : Below w.heap.size w (w.alloc (.cells #[.int .i64 x.p, .int .i64 x.w, a, b] 26)) := bl_al (Below.refl _ _)
  have C := bc_new w x.p x.w a b 26
  have K1 := hide (ok37 (bloV x.p x.w a b) x _ ⟨a, b, rfl, ha.below B1, hb.below B1⟩ hn hn')
  have K2 := hide (fun W => in19 tag 0 (x.p - 1) W)
  rw [inP_in] at K2
  have HC := hide C
  have HB := hide B1
  obtain ⟨A, ca, rfl⟩ := ha.slice
  obtain ⟨A2, cb, rfl⟩ := hb.slice
  clear B1 ha hb hn hn'
  have HP := hide (fun h => okX_p (x := x) h)
  unfold tagC
  obtain ⟨_, c0, c1, c2, c3⟩ := C
  generalize hok : okX x = b1 at *
  obtain ⟨p, wd, ss, bs⟩ := x
  dsimp only at *
  generalize inP p tag = b2 at *
  clear hok
  cases b1
  · go_enter Try.func53, Try.ntmps53
    go_wp2_with fail
    generalize w.alloc (.cells #[.int .i64 p, .int .i64 wd, .slice A ss.length ca, .slice A2 bs.length cb] 26) = w2 at *
    refine (unhide K1).mono ?_
    rintro e w1 ⟨rfl, b1⟩
    have B1 := hide (bl_st b1 (unhide HB))
    clear b1
    go_wp2
    go_ret
    exact ⟨rfl, unhide B1⟩
  obtain ⟨p2, p9⟩ := unhide HP rfl
  clear HP
  cases b2
  all_goals
    go_enter Try.func53, Try.ntmps53
    go_wp2_with fail
    generalize w.alloc (.cells #[.int .i64 p, .int .i64 wd, .slice A ss.length ca, .slice A2 bs.length cb] 26) = w2 at *
    refine (unhide K1).mono ?_
    rintro e w1 ⟨rfl, b1⟩
    have B1 := hide (bl_st b1 (unhide HB))
    clear c0 c1 c2 c3
    obtain ⟨_, c0, c1, c2, c3⟩ := (unhide HC).below b1
    clear b1
    go_wp2_with fail
    refine (unhide K2 w1).mono ?_
    rintro e w2 ⟨rfl, rfl⟩
    go_wp2
    go_ret
    exact ⟨rfl, unhide B1⟩
end Go.Proofs.Ythckgccfjpgbaaa
