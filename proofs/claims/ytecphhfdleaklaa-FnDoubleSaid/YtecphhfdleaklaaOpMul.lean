/- Contracts of FieldMul on both sides, and the law of it. -/
import Derived.Test.YtecphhfdleaklaaOps
import Derived.Test.YtecphhfdleaklaaImplF
import Derived.Test.YtecphhfdleaklaaMul
namespace Go.Proofs.Ytecphhfdleaklaa
open Go.RowKit
set_option maxHeartbeats 1600000
def MulV (a b : ByteArray) : Value := if longB a || longB b then .tuple #[.string ⟨#[]⟩, .int .i64 2] else if okB a && okB b then .tuple #[.string (enc (((numN a : Int) * (numN b : Int)) % pInt)), .int .i64 0] else .tuple #[.string ⟨#[]⟩, .int .i64 1]
theorem spec_Mul (a b : ByteArray) (ha : a.size ≤ maxLen) (hb : b.size ≤ maxLen) (w : World) : Calls Try.prog 27 #[.string a, .string b] w fun e w' => e = .returned (MulV a b) ∧ Below w.heap.size w w' := by
  by_cases hl : 65536 < a.size ∨ 65536 < b.size
  · rw [show MulV a b = .tuple #[.string ⟨#[]⟩, .int .i64 2] by unfold MulV; rw [if_pos (by simp [longB]; exact hl)]]
    by_cases h1 : 65536 < a.size
    · go_enter Try.func27, Try.ntmps27
      go_wp2
      go_ret2
      exact ⟨rfl, Below.refl _ _⟩
    · have h2 : 65536 < b.size := by omega
      go_enter Try.func27, Try.ntmps27
      go_wp2
      go_ret2
      exact ⟨rfl, Below.refl _ _⟩
  · have h1 : a.size ≤ 65536 := by omega
    have h2 : b.size ≤ 65536 := by omega
    have hL : (longB a || longB b) = false := by simp [longB]; omega
    clear hl
    cases ho : (okB a && okB b) with
    | false =>
      rw [show MulV a b = .tuple #[.string ⟨#[]⟩, .int .i64 1] by simp [MulV, hL, ho]]
      clear hL
      go_enter Try.func27, Try.ntmps27
      go_wp2_with fail
      refine (two_any a b ha hb _).mono ?_
      rintro e w1 ⟨rfl, hb1⟩
      rw [ho]
      go_wp2
      go_ret2
      exact ⟨rfl, hb1⟩
    | true =>
      obtain ⟨ha1, hb1⟩ : okB a = true ∧ okB b = true := by simpa using ho
      rw [show MulV a b = .tuple #[.string (enc (((numN a : Int) * (numN b : Int)) % pInt)), .int .i64 0] by simp [MulV, hL, ho]]
      obtain ⟨sa, va⟩ := ok_parts ha1
      obtain ⟨sb, vb⟩ := ok_parts hb1
      have VA := hide va
      have VB := hide vb
      clear hL ha1 hb1 va vb
      go_enter Try.func27, Try.ntmps27
      go_wp2_with fail
      refine (two_any a b ha hb _).mono ?_
      rintro e w1 ⟨rfl, hb1⟩
      rw [ho]
      clear ho
      go_wp2_with fail
      refine (load_any a sa _).mono ?_
      rintro e w2 ⟨rfl, hw2⟩
      have R1 := load_row a w1
      rw [← hw2] at R1
      have hb2 : Below w1.heap.size w1 w2 := by rw [hw2]; exact (Below.refl _ _).alloc (Nat.le_refl _) _
      have H2 := hide hb2
      have HR1 := hide R1
      clear hw2 R1 hb2
      go_wp2_with fail
      refine (load_any b sb _).mono ?_
      rintro e w3 ⟨rfl, hw3⟩
      have R2 := load_row b w2
      rw [← hw3] at R2
      have hb3 : Below w2.heap.size w2 w3 := by rw [hw3]; exact (Below.refl _ _).alloc (Nat.le_refl _) _
      have H3 := hide hb3
      have HR2 := hide R2
      clear hw3 R2 hb3
      go_wp2_with fail
      refine (mul_any w3 w1.heap.size w2.heap.size 10 10 _ _ ((unhide HR1).kept (unhide H3)) (unhide HR2)).mono ?_
      rintro e w4 ⟨k4, rfl, _, hb4, hr4⟩
      have H4 := hide hb4
      have HR4 := hide hr4
      clear hb4 hr4
      go_wp2_with fail
      refine (store_row w4 k4 10 _ (unhide HR4)).mono ?_
      rintro e w5 ⟨rfl, hb5⟩
      rw [unhide VA, unhide VB]
      go_wp2
      go_ret2
      have b2 := unhide H2
      have b3 := unhide H3
      have b4 := unhide H4
      exact ⟨rfl, hb1.trans ((b2.trans ((b3.trans ((b4.trans (hb5.mono b4.size)).mono b3.size)).mono b2.size)).mono hb1.size)⟩
theorem impl_Mul (a b : ByteArray) (w : World) : Calls Try.prog 26 #[.string a, .string b] w fun e w' => e = .returned (MulV a b) ∧ Below w.heap.size w w' := by
  cases hL : (longB a || longB b) with
  | true =>
    rw [show MulV a b = .tuple #[.string ⟨#[]⟩, .int .i64 2] by simp [MulV, hL]]
    have hc : code2 a b = 2 := by simp [code2, hL]
    clear hL
    go_enter Try.func26, Try.ntmps26
    go_wp2_with fail
    refine (code_two a b _ _ (by simp) (by simp) (by simp)).mono ?_
    rintro e w1 ⟨rfl, hb1⟩
    rw [hc]
    go_wp2
    go_ret2
    exact ⟨rfl, ((Below.refl _ _).alloc (Nat.le_refl _) _).trans (hb1.mono (by simp))⟩
  | false =>
    cases ho : (okB a && okB b) with
    | false =>
      rw [show MulV a b = .tuple #[.string ⟨#[]⟩, .int .i64 1] by simp [MulV, hL, ho]]
      have hc : code2 a b = 1 := by simp [code2, hL, ho]
      clear hL ho
      go_enter Try.func26, Try.ntmps26
      go_wp2_with fail
      refine (code_two a b _ _ (by simp) (by simp) (by simp)).mono ?_
      rintro e w1 ⟨rfl, hb1⟩
      rw [hc]
      go_wp2
      go_ret2
      exact ⟨rfl, ((Below.refl _ _).alloc (Nat.le_refl _) _).trans (hb1.mono (by simp))⟩
    | true =>
      rw [show MulV a b = .tuple #[.string (enc (((numN a : Int) * (numN b : Int)) % pInt)), .int .i64 0] by simp [MulV, hL, ho]]
      have hc : code2 a b = 0 := by simp [code2, hL, ho]
      obtain ⟨ha1, hb1⟩ : okB a = true ∧ okB b = true := by simpa using ho
      obtain ⟨sa, va⟩ := ok_parts ha1
      obtain ⟨sb, vb⟩ := ok_parts hb1
      have VA := hide va
      have VB := hide vb
      clear hL ho ha1 hb1 va vb
      go_enter Try.func26, Try.ntmps26
      go_wp2_with fail
      refine (code_two a b _ _ (by simp) (by simp) (by simp)).mono ?_
      rintro e w1 ⟨rfl, hb1⟩
      rw [hc]
      have H1 : Hid (Below w.heap.size w w1) := hide (((Below.refl _ _).alloc (Nat.le_refl _) _).trans (hb1.mono (by simp)))
      clear hb1 hc
      go_wp2_with fail
      refine (limbsOf_any a sa _).mono ?_
      rintro e w2 ⟨⟨m0, m1, m2, m3, m4, rfl, hin, hv⟩, hb2⟩
      have H2 := hide hb2
      have HI := hide hin
      have HV := hide hv
      clear hb2 hin hv
      go_wp2_with fail
      refine (limbsOf_any b sb _).mono ?_
      rintro e w3 ⟨⟨n0, n1, n2, n3, n4, rfl, kin, kv⟩, hb3⟩
      have H3 := hide hb3
      have KI := hide kin
      have KV := hide kv
      clear hb3 kin kv
      go_wp2_with fail
      refine (times_any m0 m1 m2 m3 m4 n0 n1 n2 n3 n4 _ (in_car (unhide HI)) (in_car (unhide KI))).mono ?_
      rintro e w4 ⟨⟨r0, r1, r2, r3, r4, rfl, hcar, hrv⟩, hb4⟩
      have H4 := hide hb4
      have HR := hide hrv
      have HC := hide hcar
      clear hb4 hrv hcar
      go_wp2_with fail
      refine (text_any r0 r1 r2 r3 r4 _ (unhide HC)).mono ?_
      rintro e w5 ⟨rfl, hb5⟩
      rw [unhide HR, unhide HV, unhide KV, unhide VA, unhide VB]
      go_wp2
      go_ret2
      have b1 := unhide H1
      have b2 := unhide H2
      have b3 := unhide H3
      have b4 := unhide H4
      exact ⟨rfl, b1.trans ((b2.trans ((b3.trans ((b4.trans (hb5.mono b4.size)).mono b3.size)).mono b2.size)).mono b1.size)⟩
theorem law_Mul (a : ByteArray) (ha : a.size ≤ maxLen) (b : ByteArray) (hb : b.size ≤ maxLen) (w : World) : Calls Try.prog 13 #[.string a, .string b] w fun e w' => e = .returned (.bool true) ∧ Below w.heap.size w w' := by
  by_cases h1 : a.size ≤ 1048576
  · by_cases h2 : b.size ≤ 1048576
    · obtain ⟨x, y, hx⟩ : ∃ (x : ByteArray) (y : Int), MulV a b = .tuple #[.string x, .int .i64 y] := by
        unfold MulV; split
        · exact ⟨_, _, rfl⟩
        · split <;> exact ⟨_, _, rfl⟩
      have HX := hide hx
      clear hx
      go_enter Try.func13, Try.ntmps13
      go_wp2_with fail
      refine (spec_Mul a b ha hb _).mono ?_
      rintro e w1 ⟨rfl, hb1⟩
      rw [unhide HX]
      go_wp2_with fail
      refine (impl_Mul a b _).mono ?_
      rintro e w2 ⟨rfl, hb2⟩
      rw [unhide HX]
      go_wp2
      go_ret
      exact ⟨rfl, hb1.trans (hb2.mono hb1.size)⟩
    · unfold maxLen at hb
      go_enter Try.func13, Try.ntmps13
      go_wp2
      go_ret
      exact ⟨rfl, Below.refl _ _⟩
  · unfold maxLen at ha
    go_enter Try.func13, Try.ntmps13
    go_wp2
    go_ret
    exact ⟨rfl, Below.refl _ _⟩
end Go.Proofs.Ytecphhfdleaklaa
