/- Contracts of DoublePoint on both sides, and the law of it. -/
import Derived.Test.YtncplefjokbbjaaSpecE
import Derived.Test.YtncplefjokbbjaaCurveB
import Derived.Test.YtncplefjokbbjaaCurveD
namespace Go.Proofs.Ytncplefjokbbjaa
open Go.RowKit
set_option maxHeartbeats 4000000
set_option maxRecDepth 20000
set_option linter.unusedSimpArgs false
theorem dX_mod {A B A' B' m : Int} (h : A % m = A' % m) (g : B % m = B' % m) : dX A B % m = dX A' B' % m := mod_mul (mod_mul h h) (mod_mul g g)
theorem dZ_mod {A B A' B' m : Int} (h : A % m = A' % m) (g : B % m = B' % m) : dZ A B % m = dZ A' B' % m :=
  have e := mod_sub (mod_mul h h) (mod_mul g g)
  mod_mul e (mod_add (mod_mul h h) (mod_mul rfl e))
theorem mod_powD {a b m : Int} (h : a % m = b % m) : ∀ n : Nat, a ^ n % m = b ^ n % m
  | 0 => by rw [Int.pow_zero, Int.pow_zero]
  | n + 1 => by rw [Int.pow_succ, Int.pow_succ]; exact mod_mul (mod_powD h n) h
def dblN (u : Int) : Int := dbX u 1 * dbZ u 1 ^ 57896044618658097711785492504343953926634992332820282019728792003956564819947
def DblV (a : ByteArray) : Value := if longB a then .tuple #[.string ⟨#[]⟩, .int .i64 2] else if okB a then .tuple #[.string (enc (dblN (numN a) % pInt)), .int .i64 0] else .tuple #[.string ⟨#[]⟩, .int .i64 1]
theorem spec_Dbl (a : ByteArray) (ha : a.size ≤ maxLen) (w : World) : Calls Try.prog 18 #[.string a] w fun e w' => e = .returned (DblV a) ∧ Below w.heap.size w w' := by
  have hm := make10
  by_cases hl : 65536 < a.size
  · rw [show DblV a = .tuple #[.string ⟨#[]⟩, .int .i64 2] by unfold DblV; rw [if_pos (long_t hl)]]
    go_enter Try.func18, Try.ntmps18
    go_wp2
    go_ret2
    exact ⟨rfl, Below.refl _ _⟩
  · have hL := long_f hl
    cases ho : okB a with
    | false =>
      rw [show DblV a = .tuple #[.string ⟨#[]⟩, .int .i64 1] by simp [DblV, hL, ho]]
      go_enter Try.func18, Try.ntmps18
      go_wp2_with fail
      refine (spec_ok a ha _).mono ?_
      rintro e w1 ⟨rfl, hb1⟩
      rw [ho]
      go_wp2
      go_ret2
      exact ⟨rfl, hb1⟩
    | true =>
      obtain ⟨sa, va⟩ := ok_parts ho
      have VA := hide va
      rw [show DblV a = .tuple #[.string (enc (dblN (numN a) % pInt)), .int .i64 0] by simp [DblV, hL, ho]]
      clear va
      go_enter Try.func18, Try.ntmps18
      go_wp2_with fail
      refine (spec_ok a ha _).mono ?_
      rintro e w1 ⟨rfl, hb1⟩
      rw [ho]
      have B1 := hide hb1
      clear hb1
      go_wp2_with fail
      obtain ⟨wz, hwz⟩ : ∃ wz, wz = w1.alloc (.cells #[.int .i64 1, .int .i64 0, .int .i64 0, .int .i64 0, .int .i64 0, .int .i64 0, .int .i64 0, .int .i64 0, .int .i64 0, .int .i64 0] 3) := ⟨_, rfl⟩
      rw [← hwz]
      have B2 := hide (show Below w1.heap.size w1 wz by rw [hwz]; exact (Below.refl _ _).alloc (Nat.le_refl _) _)
      have Q1 : Hid (Row10 wz w1.heap.size 1) := hide (by rw [hwz]; exact one10 w1)
      clear hwz hm
      refine (load_any a sa _).mono ?_
      rintro e w2 ⟨rfl, hw2⟩
      have R1 := load_row a wz
      rw [← hw2] at R1
      have hb2 : Below wz.heap.size wz w2 := by rw [hw2]; exact (Below.refl _ _).alloc (Nat.le_refl _) _
      rw [unhide VA] at R1
      have B3 := hide hb2
      have QU := hide R1
      have Q1' := hide ((unhide Q1).kept hb2)
      clear hw2 R1 hb2 Q1
      go_wp2_with fail
      refine (ldouble_any _ wz.heap.size w1.heap.size 10 10 _ _ (unhide QU) (unhide Q1')).mono ?_
      rintro e w3 ⟨k1, k2, rfl, hb3, hd1, hd2⟩
      have B4 := hide hb3
      have D1 := hide hd1
      have D2 := hide hd2
      clear hb3 hd1 hd2 QU Q1'
      go_wp2_with fail
      refine (linv_any _ k2 10 _ (unhide D2)).mono ?_
      rintro e w4 ⟨k3, rfl, hb4, hr4⟩
      have B5 := hide hb4
      have D3 := hide hr4
      have D1' := hide ((unhide D1).kept hb4)
      clear hb4 hr4 D1 D2
      go_wp2_with fail
      refine (mul_any _ k1 k3 10 10 _ _ (unhide D1') (unhide D3)).mono ?_
      rintro e w5 ⟨k4, rfl, _, hb5, hr5⟩
      have B6 := hide hb5
      have D4 := hide hr5
      clear hb5 hr5 D1' D3
      go_wp2_with fail
      refine (store_row w5 k4 10 _ (unhide D4)).mono ?_
      rintro e w6 ⟨rfl, hb6⟩
      rw [less_num]
      go_wp2
      go_ret2
      have b1 := unhide B1
      have b2 := unhide B2
      have b3 := unhide B3
      have b4 := unhide B4
      have b5 := unhide B5
      have b6 := unhide B6
      exact ⟨rfl, b1.trans ((b2.trans ((b3.trans ((b4.trans ((b5.trans ((b6.trans (hb6.mono b6.size)).mono b5.size)).mono b4.size)).mono b3.size)).mono b2.size)).mono b1.size)⟩
theorem impl_Dbl (a : ByteArray) (w : World) : Calls Try.prog 17 #[.string a] w fun e w' => e = .returned (DblV a) ∧ Below w.heap.size w w' := by
  cases hL : longB a with
  | true =>
    rw [show DblV a = .tuple #[.string ⟨#[]⟩, .int .i64 2] by simp [DblV, hL]]
    have hc : code1 a = 2 := by simp [code1, hL]
    go_enter Try.func17, Try.ntmps17
    go_wp2_with fail
    refine (code_one a _ _ (by simp)).mono ?_
    rintro e w1 ⟨rfl, hb1⟩
    rw [hc]
    go_wp2
    go_ret2
    exact ⟨rfl, ((Below.refl _ _).alloc (Nat.le_refl _) _).trans (hb1.mono (by simp))⟩
  | false =>
    cases ho : okB a with
    | false =>
      rw [show DblV a = .tuple #[.string ⟨#[]⟩, .int .i64 1] by simp [DblV, hL, ho]]
      have hc : code1 a = 1 := by simp [code1, hL, ho]
      go_enter Try.func17, Try.ntmps17
      go_wp2_with fail
      refine (code_one a _ _ (by simp)).mono ?_
      rintro e w1 ⟨rfl, hb1⟩
      rw [hc]
      go_wp2
      go_ret2
      exact ⟨rfl, ((Below.refl _ _).alloc (Nat.le_refl _) _).trans (hb1.mono (by simp))⟩
    | true =>
      have hc : code1 a = 0 := by simp [code1, hL, ho]
      obtain ⟨sa, va⟩ := ok_parts ho
      have VA := hide va
      rw [show DblV a = .tuple #[.string (enc (dblN (numN a) % pInt)), .int .i64 0] by simp [DblV, hL, ho]]
      clear va ho hL
      go_enter Try.func17, Try.ntmps17
      go_wp2_with fail
      refine (code_one a _ _ (by simp)).mono ?_
      rintro e w1 ⟨rfl, hb1⟩
      rw [hc]
      have H1 : Hid (Below w.heap.size w w1) := hide (((Below.refl _ _).alloc (Nat.le_refl _) _).trans (hb1.mono (by simp)))
      clear hb1 hc
      go_wp2_with fail
      refine (limbsOf_any a sa _).mono ?_
      rintro e w2 ⟨⟨x0, x1, x2, x3, x4, rfl, hin, hv⟩, hb2⟩
      have H2 := hide hb2
      have Cx := hide (in_car hin)
      have Vx := hide (hv.trans (unhide VA))
      clear hb2 hin hv
      go_wp2
      go_region_held3 (fun w' => w'.cell? ⟨w2.heap.size, 0, none⟩ = some (.int .u64 x0) ∧ w'.cell? ⟨w2.heap.size, 1, none⟩ = some (.int .u64 x1) ∧ w'.cell? ⟨w2.heap.size, 2, none⟩ = some (.int .u64 x2) ∧ w'.cell? ⟨w2.heap.size, 3, none⟩ = some (.int .u64 x3) ∧ w'.cell? ⟨w2.heap.size, 4, none⟩ = some (.int .u64 x4)) (simp (disch := (first | (simp only [World.size_alloc, size_adds, sizeDrew]; done) | (simp only [World.size_alloc, size_adds, sizeDrew]; omega))) only [cell_old, cell_adds, cellDrew, cellE0, cellE1, cellE2, cellE3, cellE4, and_self])
        (first
          | (go_at_call_of 35 (Value.agg #[.int .u64 x0, .int .u64 x1, .int .u64 x2, .int .u64 x3, .int .u64 x4]); refine (plus_any x0 x1 x2 x3 x4 1 0 0 0 0 _ (unhide Cx) (by unfold Car; omega)).mono ?_; rintro e w1 ⟨⟨p0, p1, p2, p3, p4, rfl, mc, mv⟩, hb⟩; have Cp := hide mc; have Vp := hide mv; clear mc mv; obtain ⟨os1, dd1, rfl⟩ := to_adds hb; clear hb)
          | (go_at_call_of 36 (Value.agg #[.int .u64 x0, .int .u64 x1, .int .u64 x2, .int .u64 x3, .int .u64 x4]); refine (minus_any x0 x1 x2 x3 x4 1 0 0 0 0 _ (unhide Cx) (by unfold Car; omega)).mono ?_; rintro e w1 ⟨⟨m0, m1, m2, m3, m4, rfl, mc, mv⟩, hb⟩; have Cm := hide mc; have Vm := hide mv; clear mc mv; obtain ⟨os2, dd2, rfl⟩ := to_adds hb; clear hb)
          | (go_at_call_of 34 (L5 p0 p1 p2 p3 p4); refine (doubled_any p0 p1 p2 p3 p4 m0 m1 m2 m3 m4 _ (unhide Cp) (unhide Cm)).mono ?_; rintro e w1 ⟨⟨X0, X1, X2, X3, X4, Z0, Z1, Z2, Z3, Z4, rfl, mc, md, mv, mw⟩, hb⟩; have CX := hide mc; have CZ := hide md; have VX := hide mv; have VZ := hide mw; clear mc md mv mw; obtain ⟨os3, dd3, rfl⟩ := to_adds hb; clear hb)
          | (go_at_call_of 33 (L5 X0 X1 X2 X3 X4); refine (divided_any X0 X1 X2 X3 X4 Z0 Z1 Z2 Z3 Z4 _ (unhide CX) (unhide CZ)).mono ?_; rintro e w1 ⟨⟨r0, r1, r2, r3, r4, rfl, mc, mv⟩, hb⟩; have Cr := hide mc; have Vr := hide mv; clear mc mv; obtain ⟨os4, dd4, rfl⟩ := to_adds hb; clear hb)
          | (go_at_call_of 30 (L5 r0 r1 r2 r3 r4); refine (text_any r0 r1 r2 r3 r4 _ (unhide Cr)).mono ?_; rintro e w1 ⟨rfl, hb⟩; obtain ⟨os5, dd5, rfl⟩ := to_adds hb; clear hb))
      have E : V5 r0 r1 r2 r3 r4 % pInt = dblN (numN a) % pInt := by
        have vp := (unhide Vp)
        have vm := (unhide Vm)
        rw [V5_small, unhide Vx] at vp vm
        have ex := (unhide VX).trans (dX_mod vp vm)
        have ez := (unhide VZ).trans (dZ_mod vp vm)
        rw [less_num] at Vr
        exact (unhide Vr).trans (mod_mul ex (mod_powD ez _))
      rw [E]
      go_wp2
      go_ret2
      refine ⟨rfl, ?_⟩
      have b1 := unhide H1
      have b2 := unhide H2
      refine (b1.trans (b2.mono b1.size)).trans (Below.mono ?_ (b1.trans (b2.mono b1.size)).size)
      refine below_adds ?_ ?_ _ _ <;> go_grown
end Go.Proofs.Ytncplefjokbbjaa
