/- Contracts of SharedSecret on both sides, and the law of it. -/
import Derived.Test.YtncplefjokbbjaaOpMult
namespace Go.Proofs.Ytncplefjokbbjaa
open Go.RowKit
set_option maxHeartbeats 4000000
set_option maxRecDepth 20000
theorem mult_nat (k u : ByteArray) : ∃ n : Nat, up (lowN u) (numN (clampB k)) % pInt = (n : Int) ∧ n < pN := by
  generalize up (lowN u) (numN (clampB k)) = v
  have h0 : 0 ≤ v % pInt := Int.emod_nonneg _ (by unfold pInt; decide)
  have h1 : v % pInt < pInt := Int.emod_lt_of_pos _ (by unfold pInt; decide)
  exact ⟨(v % pInt).toNat, by omega, by unfold pN; unfold pInt at h0 h1 ⊢; omega⟩
theorem mult_num (k u : ByteArray) : up (lowN u) (numN (clampB k)) % pInt = (numN (multB k u) : Int) := by
  obtain ⟨n, e, hn⟩ := mult_nat k u
  unfold multB
  rw [e, numN_enc n (by unfold pN at hn; omega)]
theorem mult_size (k u : ByteArray) : (multB k u).size = 32 := by
  obtain ⟨n, e, _⟩ := mult_nat k u
  unfold multB
  rw [e, enc_size]
def SecV (a b : ByteArray) : Value := if longB a || longB b then .tuple #[.string ⟨#[]⟩, .int .i64 2] else if a.size = 32 ∧ b.size = 32 then (if numN (multB a b) = 0 then .tuple #[.string ⟨#[]⟩, .int .i64 19] else .tuple #[.string (multB a b), .int .i64 0]) else .tuple #[.string ⟨#[]⟩, .int .i64 1]
theorem impl_Sec (a b : ByteArray) (w : World) : Calls Try.prog 15 #[.string a, .string b] w fun e w' => e = .returned (SecV a b) ∧ Below w.heap.size w w' := by
  cases hL : (longB a || longB b) with
  | true =>
    rw [show SecV a b = .tuple #[.string ⟨#[]⟩, .int .i64 2] by simp [SecV, hL]]
    have hc : scode2 a b = 2 := by simp [scode2, hL]
    go_enter Try.func15, Try.ntmps15
    go_wp2_with fail
    refine (size_two a b _ _ (by simp) (by simp)).mono ?_
    rintro e w1 ⟨rfl, rfl⟩
    rw [hc]
    go_wp2
    go_ret2
    exact ⟨rfl, by go_grown⟩
  | false =>
    by_cases h : a.size = 32 ∧ b.size = 32
    · have hc : scode2 a b = 0 := by simp [scode2, hL, h]
      have HL := hide hL
      have HH := hide h
      obtain ⟨ha, hb⟩ := h
      clear hL
      go_enter Try.func15, Try.ntmps15
      go_wp2_with fail
      refine (size_two a b _ _ (by simp) (by simp)).mono ?_
      rintro e w1 ⟨rfl, rfl⟩
      rw [hc]
      clear hc
      go_wp2_with fail
      refine (limbsOf_any b hb _).mono ?_
      rintro e w2 ⟨⟨m0, m1, m2, m3, m4, rfl, hin, hv⟩, hb2⟩
      have HC := hide (in_car hin)
      have HV := hide hv
      have H2 := hide (((Below.refl _ _).alloc (Nat.le_refl _) _).trans (hb2.mono (by simp)) : Below w.heap.size w w2)
      clear hin hv hb2
      go_wp2_with fail
      refine (goneUp_any a ha m0 m1 m2 m3 m4 _ (unhide HC)).mono ?_
      rintro e w3 ⟨⟨r0, r1, r2, r3, r4, rfl, hcar, hrv⟩, hb3⟩
      have HR := hide hrv
      have HD := hide hcar
      have H3 := hide ((unhide H2).trans (hb3.mono (unhide H2).size))
      clear hcar hrv hb3 H2
      go_wp2_with fail
      refine (settled_any r0 r1 r2 r3 r4 _ (unhide HD)).mono ?_
      rintro e w4 ⟨⟨s0, s1, s2, s3, s4, rfl, hin, hv⟩, hb4⟩
      have E : V5 s0 s1 s2 s3 s4 = (numN (multB a b) : Int) := by rw [hv, unhide HR, unhide HV, ← mult_num]; rfl
      have HE := hide E
      have HI := hide hin
      have H4 := hide ((unhide H3).trans (hb4.mono (unhide H3).size))
      clear hin hv hb4 H3 E HR HV
      by_cases hz : numN (multB a b) = 0
      · have HX := hide (show SecV a b = .tuple #[.string ⟨#[]⟩, .int .i64 19] by simp [SecV, unhide HL, unhide HH, hz])
        have hd : decide (numN (multB a b) = 0) = true := by simpa using hz
        have hE : ∀ wx, (Op.equalIn 10000 42 (.agg #[.int .u64 s0, .int .u64 s1, .int .u64 s2, .int .u64 s3, .int .u64 s4]) (.agg #[.int .u64 0, .int .u64 0, .int .u64 0, .int .u64 0, .int .u64 0])).run Try.prog wx = .ok true wx := fun wx => (eq5 s0 s1 s2 s3 s4 wx).trans (by rw [zero5 (unhide HI) (unhide HE), hd])
        clear hz hd
        go_wp2
        go_ret2
        have b4 := unhide H4
        exact ⟨ret_val (unhide HX).symm, b4.alloc b4.size _⟩
      · have HX := hide (show SecV a b = .tuple #[.string (multB a b), .int .i64 0] by simp [SecV, unhide HL, unhide HH, hz])
        have hd : decide (numN (multB a b) = 0) = false := by simpa using hz
        have hE : ∀ wx, (Op.equalIn 10000 42 (.agg #[.int .u64 s0, .int .u64 s1, .int .u64 s2, .int .u64 s3, .int .u64 s4]) (.agg #[.int .u64 0, .int .u64 0, .int .u64 0, .int .u64 0, .int .u64 0])).run Try.prog wx = .ok false wx := fun wx => (eq5 s0 s1 s2 s3 s4 wx).trans (by rw [zero5 (unhide HI) (unhide HE), hd])
        clear hz hd
        go_wp2_with fail
        refine (text_any s0 s1 s2 s3 s4 _ (in_car (unhide HI))).mono ?_
        rintro e w5 ⟨rfl, hb5⟩
        have F : enc (V5 s0 s1 s2 s3 s4 % pInt) = multB a b := by
          rw [unhide HE, ← mult_num, Int.emod_emod]
          rfl
        rw [F]
        go_wp2
        go_ret2
        have b4 := unhide H4
        have b3 := b4.alloc b4.size (.cells #[.int .u64 s0, .int .u64 s1, .int .u64 s2, .int .u64 s3, .int .u64 s4] 42)
        exact ⟨ret_val (unhide HX).symm, b3.trans (hb5.mono b3.size)⟩
    · rw [show SecV a b = .tuple #[.string ⟨#[]⟩, .int .i64 1] by simp [SecV, hL, h]]
      have hc : scode2 a b = 1 := by simp [scode2, hL, h]
      go_enter Try.func15, Try.ntmps15
      go_wp2_with fail
      refine (size_two a b _ _ (by simp) (by simp)).mono ?_
      rintro e w1 ⟨rfl, rfl⟩
      rw [hc]
      go_wp2
      go_ret2
      exact ⟨rfl, by go_grown⟩
end Go.Proofs.Ytncplefjokbbjaa
