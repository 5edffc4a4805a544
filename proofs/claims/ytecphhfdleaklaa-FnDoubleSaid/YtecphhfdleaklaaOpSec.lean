/- Contracts of SharedSecret on both sides, and the law of it. -/
import Derived.Test.YtecphhfdleaklaaOpMult
namespace Go.Proofs.Ytecphhfdleaklaa
open Go.RowKit
set_option maxHeartbeats 4000000
set_option maxRecDepth 20000
theorem mult_nat (k u : ByteArray) : ∃ n : Nat, up (lowN u) (numN (clampB k)) % pInt = (n : Int) ∧ n < pN := by
  generalize up (lowN u) (numN (clampB k)) = v
  have h0 : 0 ≤ v % pInt := Int.emod_nonneg _ (by unfold pInt; decide)
  have h1 : v % pInt < pInt := Int.emod_lt_of_pos _ (by unfold pInt; decide)
  exact ⟨(v % pInt).toNat, by omega, by unfold pN; unfold pInt at h0 h1 ⊢; omega⟩
theorem mult_num (k u : ByteArray) : up (lowN u) (numN (clampB k)) % pInt = (numN (multB k u) : Int) := by
  obtain ⟨n, e, hn⟩ := mult_nat k u
  unfold multB
  rw [e, numN_enc n (by unfold pN at hn; omega)]
theorem mult_size (k u : ByteArray) : (multB k u).size = 32 := by
  obtain ⟨n, e, _⟩ := mult_nat k u
  unfold multB
  rw [e, enc_size]
def SecV (a b : ByteArray) : Value := if longB a || longB b then .tuple #[.string ⟨#[]⟩, .int .i64 2] else if a.size = 32 ∧ b.size = 32 then (if numN (multB a b) = 0 then .tuple #[.string ⟨#[]⟩, .int .i64 19] else .tuple #[.string (multB a b), .int .i64 0]) else .tuple #[.string ⟨#[]⟩, .int .i64 1]
theorem spec_Sec (a b : ByteArray) (w : World) : Calls Try.prog 52 #[.string a, .string b] w fun e w' => e = .returned (SecV a b) ∧ Below w.heap.size w w' := by
  have hm := make32
  by_cases hl : 65536 < a.size ∨ 65536 < b.size
  · rw [show SecV a b = .tuple #[.string ⟨#[]⟩, .int .i64 2] by unfold SecV; rw [if_pos (by simp [longB]; exact hl)]]
    by_cases h1 : 65536 < a.size
    · go_enter Try.func52, Try.ntmps52
      go_wp2
      go_ret2
      exact ⟨rfl, Below.refl _ _⟩
    · have h2 : 65536 < b.size := by omega
      go_enter Try.func52, Try.ntmps52
      go_wp2
      go_ret2
      exact ⟨rfl, Below.refl _ _⟩
  · have h1 : a.size ≤ 65536 := by omega
    have h2 : b.size ≤ 65536 := by omega
    have hL : (longB a || longB b) = false := by simp [longB]; omega
    clear hl
    by_cases ha : a.size = 32
    · have hda : ((a.size : Int) != 32) = false := by simp; omega
      by_cases hb : b.size = 32
      · have hdb : ((b.size : Int) != 32) = false := by simp; omega
        have hzn := zero_num (multB a b) (mult_size a b)
        by_cases hz : numN (multB a b) = 0
        · rw [show SecV a b = .tuple #[.string ⟨#[]⟩, .int .i64 19] by simp [SecV, hL, ha, hb, hz]]
          have hzt : ((multB a b).toList == (strOfNums [0, 0, 0, 0, 0, 0, 0, 0, 0, 0, 0, 0, 0, 0, 0, 0, 0, 0, 0, 0, 0, 0, 0, 0, 0, 0, 0, 0, 0, 0, 0, 0]).toList) = true := by rw [hzn]; simpa using hz
          clear hL hzn hz
          go_enter Try.func52, Try.ntmps52
          go_wp2_with fail
          refine (lmult_any a b ha hb _).mono ?_
          rintro e w1 ⟨rfl, hb1⟩
          go_wp2
          go_ret2
          exact ⟨rfl, hb1.trans (((Below.refl _ _).alloc (Nat.le_refl _) _).mono hb1.size)⟩
        · rw [show SecV a b = .tuple #[.string (multB a b), .int .i64 0] by simp [SecV, hL, ha, hb, hz]]
          have hzt : ((multB a b).toList == (strOfNums [0, 0, 0, 0, 0, 0, 0, 0, 0, 0, 0, 0, 0, 0, 0, 0, 0, 0, 0, 0, 0, 0, 0, 0, 0, 0, 0, 0, 0, 0, 0, 0]).toList) = false := by rw [hzn]; simpa using hz
          clear hL hzn hz
          go_enter Try.func52, Try.ntmps52
          go_wp2_with fail
          refine (lmult_any a b ha hb _).mono ?_
          rintro e w1 ⟨rfl, hb1⟩
          go_wp2
          go_ret2
          exact ⟨rfl, hb1.trans (((Below.refl _ _).alloc (Nat.le_refl _) _).mono hb1.size)⟩
      · have hdb : ((b.size : Int) != 32) = true := by simp; omega
        rw [show SecV a b = .tuple #[.string ⟨#[]⟩, .int .i64 1] by simp [SecV, hL, hb]]
        clear hL
        go_enter Try.func52, Try.ntmps52
        go_wp2
        go_ret2
        exact ⟨rfl, Below.refl _ _⟩
    · have hda : ((a.size : Int) != 32) = true := by simp; omega
      rw [show SecV a b = .tuple #[.string ⟨#[]⟩, .int .i64 1] by simp [SecV, hL, ha]]
      clear hL
      go_enter Try.func52, Try.ntmps52
      go_wp2
      go_ret2
      exact ⟨rfl, Below.refl _ _⟩
theorem impl_Sec (a b : ByteArray) (w : World) : Calls Try.prog 37 #[.string a, .string b] w fun e w' => e = .returned (SecV a b) ∧ Below w.heap.size w w' := by
  cases hL : (longB a || longB b) with
  | true =>
    rw [show SecV a b = .tuple #[.string ⟨#[]⟩, .int .i64 2] by simp [SecV, hL]]
    have hc : scode2 a b = 2 := by simp [scode2, hL]
    go_enter Try.func37, Try.ntmps37
    go_wp2_with fail
    refine (size_two a b _ _ (by simp) (by simp)).mono ?_
    rintro e w1 ⟨rfl, rfl⟩
    rw [hc]
    go_wp2
    go_ret2
    exact ⟨rfl, by go_grown⟩
  | false =>
    by_cases h : a.size = 32 ∧ b.size = 32
    · have hc : scode2 a b = 0 := by simp [scode2, hL, h]
      have HL := hide hL
      have HH := hide h
      obtain ⟨ha, hb⟩ := h
      clear hL
      go_enter Try.func37, Try.ntmps37
      go_wp2_with fail
      refine (size_two a b _ _ (by simp) (by simp)).mono ?_
      rintro e w1 ⟨rfl, rfl⟩
      rw [hc]
      clear hc
      go_wp2_with fail
      refine (limbsOf_any b hb _).mono ?_
      rintro e w2 ⟨⟨m0, m1, m2, m3, m4, rfl, hin, hv⟩, hb2⟩
      have HC := hide (in_car hin)
      have HV := hide hv
      have H2 := hide (((Below.refl _ _).alloc (Nat.le_refl _) _).trans (hb2.mono (by simp)) : Below w.heap.size w w2)
      clear hin hv hb2
      go_wp2_with fail
      refine (goneUp_any a ha m0 m1 m2 m3 m4 _ (unhide HC)).mono ?_
      rintro e w3 ⟨⟨r0, r1, r2, r3, r4, rfl, hcar, hrv⟩, hb3⟩
      have HR := hide hrv
      have HD := hide hcar
      have H3 := hide ((unhide H2).trans (hb3.mono (unhide H2).size))
      clear hcar hrv hb3 H2
      go_wp2_with fail
      refine (settled_any r0 r1 r2 r3 r4 _ (unhide HD)).mono ?_
      rintro e w4 ⟨⟨s0, s1, s2, s3, s4, rfl, hin, hv⟩, hb4⟩
      have E : V5 s0 s1 s2 s3 s4 = (numN (multB a b) : Int) := by rw [hv, unhide HR, unhide HV, ← mult_num]; rfl
      have HE := hide E
      have HI := hide hin
      have H4 := hide ((unhide H3).trans (hb4.mono (unhide H3).size))
      clear hin hv hb4 H3 E HR HV
      by_cases hz : numN (multB a b) = 0
      · have HX := hide (show SecV a b = .tuple #[.string ⟨#[]⟩, .int .i64 19] by simp [SecV, unhide HL, unhide HH, hz])
        have hd : decide (numN (multB a b) = 0) = true := by simpa using hz
        have hE : ∀ wx, (Op.equalIn 10000 40 (.agg #[.int .u64 s0, .int .u64 s1, .int .u64 s2, .int .u64 s3, .int .u64 s4]) (.agg #[.int .u64 0, .int .u64 0, .int .u64 0, .int .u64 0, .int .u64 0])).run Try.prog wx = .ok true wx := fun wx => (eq5 s0 s1 s2 s3 s4 wx).trans (by rw [zero5 (unhide HI) (unhide HE), hd])
        clear hz hd
        go_wp2
        go_ret2
        have b4 := unhide H4
        exact ⟨ret_val (unhide HX).symm, b4.alloc b4.size _⟩
      · have HX := hide (show SecV a b = .tuple #[.string (multB a b), .int .i64 0] by simp [SecV, unhide HL, unhide HH, hz])
        have hd : decide (numN (multB a b) = 0) = false := by simpa using hz
        have hE : ∀ wx, (Op.equalIn 10000 40 (.agg #[.int .u64 s0, .int .u64 s1, .int .u64 s2, .int .u64 s3, .int .u64 s4]) (.agg #[.int .u64 0, .int .u64 0, .int .u64 0, .int .u64 0, .int .u64 0])).run Try.prog wx = .ok false wx := fun wx => (eq5 s0 s1 s2 s3 s4 wx).trans (by rw [zero5 (unhide HI) (unhide HE), hd])
        clear hz hd
        go_wp2_with fail
        refine (text_any s0 s1 s2 s3 s4 _ (in_car (unhide HI))).mono ?_
        rintro e w5 ⟨rfl, hb5⟩
        have F : enc (V5 s0 s1 s2 s3 s4 % pInt) = multB a b := by
          rw [unhide HE, ← mult_num, Int.emod_emod]
          rfl
        rw [F]
        go_wp2
        go_ret2
        have b4 := unhide H4
        have b3 := b4.alloc b4.size (.cells #[.int .u64 s0, .int .u64 s1, .int .u64 s2, .int .u64 s3, .int .u64 s4] 40)
        exact ⟨ret_val (unhide HX).symm, b3.trans (hb5.mono b3.size)⟩
    · rw [show SecV a b = .tuple #[.string ⟨#[]⟩, .int .i64 1] by simp [SecV, hL, h]]
      have hc : scode2 a b = 1 := by simp [scode2, hL, h]
      go_enter Try.func37, Try.ntmps37
      go_wp2_with fail
      refine (size_two a b _ _ (by simp) (by simp)).mono ?_
      rintro e w1 ⟨rfl, rfl⟩
      rw [hc]
      go_wp2
      go_ret2
      exact ⟨rfl, by go_grown⟩
theorem law_Sec (a : ByteArray) (ha : a.size ≤ maxLen) (b : ByteArray) (hb : b.size ≤ maxLen) (w : World) : Calls Try.prog 19 #[.string a, .string b] w fun e w' => e = .returned (.bool true) ∧ Below w.heap.size w w' := by
  by_cases h1 : a.size ≤ 1048576
  · by_cases h2 : b.size ≤ 1048576
    · obtain ⟨x, y, hx⟩ : ∃ (x : ByteArray) (y : Int), SecV a b = .tuple #[.string x, .int .i64 y] := by
        unfold SecV; split
        · exact ⟨_, _, rfl⟩
        · split
          · split <;> exact ⟨_, _, rfl⟩
          · exact ⟨_, _, rfl⟩
      have HX := hide hx
      clear hx
      go_enter Try.func19, Try.ntmps19
      go_wp2_with fail
      refine (spec_Sec a b _).mono ?_
      rintro e w1 ⟨rfl, hb1⟩
      rw [unhide HX]
      go_wp2_with fail
      refine (impl_Sec a b _).mono ?_
      rintro e w2 ⟨rfl, hb2⟩
      rw [unhide HX]
      go_wp2
      go_ret
      exact ⟨rfl, hb1.trans (hb2.mono hb1.size)⟩
    · unfold maxLen at hb
      go_enter Try.func19, Try.ntmps19
      go_wp2
      go_ret
      exact ⟨rfl, Below.refl _ _⟩
  · unfold maxLen at ha
    go_enter Try.func19, Try.ntmps19
    go_wp2
    go_ret
    exact ⟨rfl, Below.refl _ _⟩
end Go.Proofs.Ytecphhfdleaklaa
