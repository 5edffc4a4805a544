/- Contracts of the powers on both sides: square and multiply, from the highest bit on. -/
import Derived.Test.YtncplefjokbbjaaOpMul
namespace Go.Proofs.Ytncplefjokbbjaa
open Go.RowKit
set_option maxHeartbeats 1600000
/-- the power by the bits from k on -/
def pw (A : Int) (e k : Nat) : Int := A ^ (e / 2 ^ k)
theorem half (e i : Nat) : e / 2 ^ i = 2 * (e / 2 ^ (i + 1)) + (e / 2 ^ i % 2) := by
  rw [Nat.pow_succ, ← Nat.div_div_eq_div_mul]; omega
theorem pw_set (A : Int) (e i : Nat) (h : e.testBit i = true) : pw A e i = pw A e (i + 1) * pw A e (i + 1) * A := by
  have h2 : e / 2 ^ i % 2 = 1 := by rw [Nat.testBit_eq_decide_div_mod_eq] at h; simpa using h
  unfold pw
  rw [half e i, h2, Int.pow_succ, Nat.two_mul, Int.pow_add]
theorem pw_not (A : Int) (e i : Nat) (h : e.testBit i = false) : pw A e i = pw A e (i + 1) * pw A e (i + 1) := by
  have h2 : e / 2 ^ i % 2 = 0 := by rw [Nat.testBit_eq_decide_div_mod_eq] at h; simp at h; omega
  unfold pw
  rw [half e i, h2, Nat.add_zero, Nat.two_mul, Int.pow_add]
theorem pw_top (A : Int) (e : Nat) (h : e < 2 ^ 256) : pw A e 256 = 1 := by
  unfold pw; rw [Nat.div_eq_of_lt h, Int.pow_zero]
theorem pw_zero (A : Int) (e : Nat) : pw A e 0 = A ^ e := by
  unfold pw; rw [Nat.pow_zero, Nat.div_one]
theorem bit_u8 (c : UInt8) (t : Nat) : (bits .and .u8 ((c.toNat : Int) / 2 ^ t) 1 == 1) = c.toNat.testBit t := by
  have hc := UInt8.toNat_lt c
  have e2 : ((c.toNat : Int) / 2 ^ t) = ((c.toNat / 2 ^ t : Nat) : Int) := by simp
  have e3 : c.toNat / 2 ^ t < 256 := Nat.lt_of_le_of_lt (Nat.div_le_self _ _) hc
  rw [e2, Nat.testBit_eq_decide_div_mod_eq]
  generalize c.toNat / 2 ^ t = q at *
  rw [show bits .and .u8 (q : Int) 1 = ((q &&& 1 : Nat) : Int) from u8_and_nat q 1 e3 (by decide), Nat.and_one_is_mod, Bool.eq_iff_iff]
  simp
  omega
theorem power_any (a0 a1 a2 a3 a4 : Int) (x : ByteArray) (hx : x.size = 32) (w : World) (ha : Car a0 a1 a2 a3 a4) :
    Calls Try.prog 53 #[L5 a0 a1 a2 a3 a4, .string x] w fun e w' => (∃ m0 m1 m2 m3 m4 : Int, e = .returned (L5 m0 m1 m2 m3 m4) ∧ Car m0 m1 m2 m3 m4 ∧ V5 m0 m1 m2 m3 m4 % pInt = (V5 a0 a1 a2 a3 a4 ^ numN x) % pInt) ∧ Below w.heap.size w w' := by
  have HN : Hid (numN x < 2 ^ 256) := hide (by have := numN_lt x hx; omega)
  have HA := hide ha
  clear ha
  go_enter Try.func53, Try.ntmps53
  go_wp2
  rw [← adds_none (World.alloc (World.alloc (World.alloc w _) _) _)]
  go_loopw [6] (fun c wr => ∃ r0 r1 r2 r3 r4 : Int, ∃ os d, wr = adds (((w.alloc (.cells #[.int .u64 a0, .int .u64 a1, .int .u64 a2, .int .u64 a3, .int .u64 a4] 42)).alloc (.cells #[.int .u64 0, .int .u64 0, .int .u64 0, .int .u64 0, .int .u64 0] 42)).alloc (.cells #[.int .u64 r0, .int .u64 r1, .int .u64 r2, .int .u64 r3, .int .u64 r4] 42)) os d ∧ Car r0 r1 r2 r3 r4 ∧
      ((∃ i : Nat, i < 256 ∧ c = .int .i64 i ∧ V5 r0 r1 r2 r3 r4 % pInt = pw (V5 a0 a1 a2 a3 a4) (numN x) (i + 1) % pInt) ∨ (c = .int .i64 (-1) ∧ V5 r0 r1 r2 r3 r4 % pInt = pw (V5 a0 a1 a2 a3 a4) (numN x) 0 % pInt))) (fun c _ => (intOf c + 1).toNat)
  case atStart => exact ⟨1, 0, 0, 0, 0, _, _, rfl, by unfold Car; omega, .inl ⟨255, by omega, rfl, by rw [pw_top _ _ (unhide HN)]; rfl⟩⟩
  case round =>
    obtain ⟨r0, r1, r2, r3, r4, os, d, rfl, hcar, hcase⟩ := hrel
    have HR := hide hcar
    clear hcar
    rcases hcase with ⟨i, hi, rfl, hv⟩ | ⟨rfl, hv⟩
    · have HV := hide hv
      clear hv
      have hb := bit_u8 (x[i / 8]'(by omega)) (i % 8)
      rw [← numN_bit x i (by omega)] at hb
      cases ht : (numN x).testBit i with
      | true =>
        rw [ht] at hb
        have HT := hide (pw_set (V5 a0 a1 a2 a3 a4) (numN x) i ht)
        clear ht
        go_wp2_with fail
        refine (times_any r0 r1 r2 r3 r4 r0 r1 r2 r3 r4 _ (unhide HR) (unhide HR)).mono ?_
        rintro e w1 ⟨⟨m0, m1, m2, m3, m4, rfl, mc, mv⟩, hbb⟩
        have MC := hide mc
        have MV := hide mv
        clear mc mv
        obtain ⟨os', d', rfl⟩ := to_adds hbb
        clear hbb
        go_wp2_with fail
        refine (times_any m0 m1 m2 m3 m4 a0 a1 a2 a3 a4 _ (unhide MC) (unhide HA)).mono ?_
        rintro e w1 ⟨⟨n0, n1, n2, n3, n4, rfl, nc, nv⟩, hbb⟩
        have NC := hide nc
        have NV := hide (show V5 n0 n1 n2 n3 n4 % pInt = pw (V5 a0 a1 a2 a3 a4) (numN x) i % pInt by
          rw [nv, unhide HT]
          exact mod_mul ((unhide MV).trans (mod_mul (unhide HV) (unhide HV))) rfl)
        clear nc nv
        obtain ⟨os2, d2, rfl⟩ := to_adds hbb
        clear hbb
        go_wp2
        go_roundw
        case rel =>
          rcases i with _ | i
          · first | exact ⟨n0, n1, n2, n3, n4, _, _, rfl, unhide NC, .inr ⟨by go_num, unhide NV⟩⟩ | ((repeat apply Exists.intro); exact ⟨⟨n0, n1, n2, n3, n4, _, _, rfl, unhide NC, .inr ⟨by go_num, unhide NV⟩⟩, rfl⟩)
          · first | exact ⟨n0, n1, n2, n3, n4, _, _, rfl, unhide NC, .inl ⟨i, by omega, by go_num, unhide NV⟩⟩ | ((repeat apply Exists.intro); exact ⟨⟨n0, n1, n2, n3, n4, _, _, rfl, unhide NC, .inl ⟨i, by omega, by go_num, unhide NV⟩⟩, rfl⟩)
        case measure => simp [intOf]
      | false =>
        rw [ht] at hb
        have HT := hide (pw_not (V5 a0 a1 a2 a3 a4) (numN x) i ht)
        clear ht
        go_wp2_with fail
        refine (times_any r0 r1 r2 r3 r4 r0 r1 r2 r3 r4 _ (unhide HR) (unhide HR)).mono ?_
        rintro e w1 ⟨⟨n0, n1, n2, n3, n4, rfl, nc, nv⟩, hbb⟩
        have NC := hide nc
        have NV := hide (show V5 n0 n1 n2 n3 n4 % pInt = pw (V5 a0 a1 a2 a3 a4) (numN x) i % pInt by
          rw [nv, unhide HT]
          exact mod_mul (unhide HV) (unhide HV))
        clear nc nv
        obtain ⟨os2, d2, rfl⟩ := to_adds hbb
        clear hbb
        go_wp2
        go_roundw
        case rel =>
          rcases i with _ | i
          · first | exact ⟨n0, n1, n2, n3, n4, _, _, rfl, unhide NC, .inr ⟨by go_num, unhide NV⟩⟩ | ((repeat apply Exists.intro); exact ⟨⟨n0, n1, n2, n3, n4, _, _, rfl, unhide NC, .inr ⟨by go_num, unhide NV⟩⟩, rfl⟩)
          · first | exact ⟨n0, n1, n2, n3, n4, _, _, rfl, unhide NC, .inl ⟨i, by omega, by go_num, unhide NV⟩⟩ | ((repeat apply Exists.intro); exact ⟨⟨n0, n1, n2, n3, n4, _, _, rfl, unhide NC, .inl ⟨i, by omega, by go_num, unhide NV⟩⟩, rfl⟩)
        case measure => simp [intOf]
    · have HV := hide (show V5 r0 r1 r2 r3 r4 % pInt = (V5 a0 a1 a2 a3 a4 ^ numN x) % pInt by rw [hv, pw_zero])
      clear hv
      go_wp2
      refine bodyPost_ret (v := L5 r0 r1 r2 r3 r4) (by simp [results, Try.results53, go_sem]) rfl ⟨⟨_, _, _, _, _, rfl, unhide HR, unhide HV⟩, ?_⟩
      refine below_adds ?_ ?_ _ _ <;> go_grown
theorem row_mod {w : World} {b : Nat} {u v : Int} (h : Row10 w b u) (e : u % pInt = v % pInt) : Row10 w b v := by
  obtain ⟨z0, z1, z2, z3, z4, z5, z6, z7, z8, z9, rest, h1, h2, h3⟩ := h
  exact ⟨z0, z1, z2, z3, z4, z5, z6, z7, z8, z9, rest, h1, h2, h3.trans e⟩
theorem one10 (w : World) : Row10 (w.alloc (.cells #[.int .i64 1, .int .i64 0, .int .i64 0, .int .i64 0, .int .i64 0, .int .i64 0, .int .i64 0, .int .i64 0, .int .i64 0, .int .i64 0] 3)) w.heap.size 1 :=
  ⟨1, 0, 0, 0, 0, 0, 0, 0, 0, 0, [], by rw [heap_alloc_new]; rfl, by unfold In26; omega, by unfold V10; rfl⟩
theorem lpower_any (w : World) (ba ca : Nat) (A : Int) (x : ByteArray) (hx : x.size = 32) (ha : Row10 w ba A) :
    Calls Try.prog 58 #[.slice (some ⟨ba, 0, none⟩) 10 ca, .string x] w fun e w' => ∃ k, e = .returned (.slice (some ⟨k, 0, none⟩) 10 10) ∧ Below w.heap.size w w' ∧ Row10 w' k (A ^ numN x) := by
  have HN : Hid (numN x < 2 ^ 256) := hide (by have := numN_lt x hx; omega)
  have HA := hide ha
  clear ha
  have hm := make10
  go_enter Try.func58, Try.ntmps58
  go_wp2
  clear hm
  go_loopw [5, 6] (fun s c wr => ∃ b, s = .slice (some ⟨b, 0, none⟩) 10 10 ∧ Below w.heap.size w wr ∧
      ((∃ i : Nat, i < 256 ∧ c = .int .i64 i ∧ Row10 wr b (pw A (numN x) (i + 1))) ∨ (c = .int .i64 (-1) ∧ Row10 wr b (pw A (numN x) 0)))) (fun _ c _ => (intOf c + 1).toNat)
  case atStart => exact ⟨_, rfl, (Below.refl _ _).alloc (Nat.le_refl _) _, .inl ⟨255, by omega, rfl, by rw [pw_top _ _ (unhide HN)]; exact one10 w⟩⟩
  case round =>
    obtain ⟨b, rfl, hbel, hcase⟩ := hrel
    rcases hcase with ⟨i, hi, rfl, hv⟩ | ⟨rfl, hv⟩
    · have HV := hide hv
      have HB := hide hbel
      clear hv hbel
      have hb := bit_byte (x[i / 8]'(by omega)) (i % 8)
      rw [← numN_bit x i (by omega)] at hb
      cases ht : (numN x).testBit i with
      | true =>
        rw [ht] at hb
        have HT := hide (pw_set A (numN x) i ht)
        clear ht
        go_wp2_with fail
        refine (mul_any _ b b 10 10 _ _ (unhide HV) (unhide HV)).mono ?_
        rintro e w1 ⟨k1, rfl, hk1, hb1, hr1⟩
        have R1 := hide hr1
        have B1 := hide ((unhide HB).trans (hb1.mono (unhide HB).size))
        clear hr1 hb1
        go_wp2_with fail
        refine (mul_any _ k1 ba 10 ca _ _ (unhide R1) ((unhide HA).kept (unhide B1))).mono ?_
        rintro e w2 ⟨k2, rfl, hk2, hb2, hr2⟩
        have R2 := hide (show Row10 w2 k2 (pw A (numN x) i) by rw [unhide HT]; exact hr2)
        have B2 := hide ((unhide B1).trans (hb2.mono (unhide B1).size))
        clear hr2 hb2
        go_wp2
        go_roundw
        case rel =>
          rcases i with _ | i
          · first | exact ⟨k2, rfl, unhide B2, .inr ⟨by go_num, unhide R2⟩⟩ | ((repeat apply Exists.intro); exact ⟨⟨k2, rfl, unhide B2, .inr ⟨by go_num, unhide R2⟩⟩, rfl⟩)
          · first | exact ⟨k2, rfl, unhide B2, .inl ⟨i, by omega, by go_num, unhide R2⟩⟩ | ((repeat apply Exists.intro); exact ⟨⟨k2, rfl, unhide B2, .inl ⟨i, by omega, by go_num, unhide R2⟩⟩, rfl⟩)
        case measure => simp [intOf]
      | false =>
        rw [ht] at hb
        have HT := hide (pw_not A (numN x) i ht)
        clear ht
        go_wp2_with fail
        refine (mul_any _ b b 10 10 _ _ (unhide HV) (unhide HV)).mono ?_
        rintro e w2 ⟨k2, rfl, hk2, hb2, hr2⟩
        have R2 := hide (show Row10 w2 k2 (pw A (numN x) i) by rw [unhide HT]; exact hr2)
        have B2 := hide ((unhide HB).trans (hb2.mono (unhide HB).size))
        clear hr2 hb2
        go_wp2
        go_roundw
        case rel =>
          rcases i with _ | i
          · first | exact ⟨k2, rfl, unhide B2, .inr ⟨by go_num, unhide R2⟩⟩ | ((repeat apply Exists.intro); exact ⟨⟨k2, rfl, unhide B2, .inr ⟨by go_num, unhide R2⟩⟩, rfl⟩)
          · first | exact ⟨k2, rfl, unhide B2, .inl ⟨i, by omega, by go_num, unhide R2⟩⟩ | ((repeat apply Exists.intro); exact ⟨⟨k2, rfl, unhide B2, .inl ⟨i, by omega, by go_num, unhide R2⟩⟩, rfl⟩)
        case measure => simp [intOf]
    · have HV := hide (show Row10 wr b (A ^ numN x) by rw [← pw_zero]; exact hv)
      have HB := hide hbel
      clear hv hbel
      go_wp2
      go_ret
      exact ⟨b, rfl, unhide HB, unhide HV⟩
end Go.Proofs.Ytncplefjokbbjaa
