/- Contracts of ScalarMult on both sides, and the law of it. -/
import Derived.Test.YtncplefjokbbjaaSpecE
import Derived.Test.YtncplefjokbbjaaGoneAll
namespace Go.Proofs.Ytncplefjokbbjaa
open Go.RowKit
set_option maxHeartbeats 4000000
set_option maxRecDepth 20000
/-- going up from a text by a text -/
def multB (k u : ByteArray) : ByteArray := enc (up (lowN u) (numN (clampB k)) % pInt)
theorem lmult_any (k u : ByteArray) (hk : k.size = 32) (hu : u.size = 32) (w : World) : Calls Try.prog 20 #[.string k, .string u] w fun e w' => e = .returned (.string (multB k u)) ∧ Below w.heap.size w w' := by
  go_enter Try.func20, Try.ntmps20
  go_wp2_with fail
  refine (lclamp_any k hk _).mono ?_
  rintro e w1 ⟨rfl, hb1⟩
  go_wp2_with fail
  refine (ladder_any (clampB k) u ((clampB_size k).trans hk) hu _).mono ?_
  rintro e w2 ⟨rfl, hb2⟩
  go_wp2
  go_ret
  exact ⟨rfl, hb1.trans (hb2.mono hb1.size)⟩
def MultV (a b : ByteArray) : Value := if longB a || longB b then .tuple #[.string ⟨#[]⟩, .int .i64 2] else if a.size = 32 ∧ b.size = 32 then .tuple #[.string (multB a b), .int .i64 0] else .tuple #[.string ⟨#[]⟩, .int .i64 1]
theorem spec_Mult (a b : ByteArray) (w : World) : Calls Try.prog 10 #[.string a, .string b] w fun e w' => e = .returned (MultV a b) ∧ Below w.heap.size w w' := by
  by_cases hl : 65536 < a.size ∨ 65536 < b.size
  · rw [show MultV a b = .tuple #[.string ⟨#[]⟩, .int .i64 2] by unfold MultV; rw [if_pos (by simp [longB]; exact hl)]]
    by_cases h1 : 65536 < a.size
    · go_enter Try.func10, Try.ntmps10
      go_wp2
      go_ret2
      exact ⟨rfl, Below.refl _ _⟩
    · have h2 : 65536 < b.size := by omega
      go_enter Try.func10, Try.ntmps10
      go_wp2
      go_ret2
      exact ⟨rfl, Below.refl _ _⟩
  · have h1 : a.size ≤ 65536 := by omega
    have h2 : b.size ≤ 65536 := by omega
    have hL : (longB a || longB b) = false := by simp [longB]; omega
    clear hl
    by_cases ha : a.size = 32
    · have hda : ((a.size : Int) != 32) = false := by simp; omega
      by_cases hb : b.size = 32
      · have hdb : ((b.size : Int) != 32) = false := by simp; omega
        rw [show MultV a b = .tuple #[.string (multB a b), .int .i64 0] by simp [MultV, hL, ha, hb]]
        clear hL
        go_enter Try.func10, Try.ntmps10
        go_wp2_with fail
        refine (lmult_any a b ha hb _).mono ?_
        rintro e w1 ⟨rfl, hb1⟩
        go_wp2
        go_ret2
        exact ⟨rfl, hb1⟩
      · have hdb : ((b.size : Int) != 32) = true := by simp; omega
        rw [show MultV a b = .tuple #[.string ⟨#[]⟩, .int .i64 1] by simp [MultV, hL, hb]]
        clear hL
        go_enter Try.func10, Try.ntmps10
        go_wp2
        go_ret2
        exact ⟨rfl, Below.refl _ _⟩
    · have hda : ((a.size : Int) != 32) = true := by simp; omega
      rw [show MultV a b = .tuple #[.string ⟨#[]⟩, .int .i64 1] by simp [MultV, hL, ha]]
      clear hL
      go_enter Try.func10, Try.ntmps10
      go_wp2
      go_ret2
      exact ⟨rfl, Below.refl _ _⟩
theorem mult22 (a b : ByteArray) (ha : a.size = 32) (hb : b.size = 32) (w : World) : Calls Try.prog 22 #[.string a, .string b] w fun e w' => e = .returned (.string (multB a b)) ∧ Below w.heap.size w w' := by
  go_enter Try.func22, Try.ntmps22
  go_wp2_with fail
  refine (limbsOf_any b hb _).mono ?_
  rintro e w2 ⟨⟨m0, m1, m2, m3, m4, rfl, hin, hv⟩, hb2⟩
  have HC := hide (in_car hin)
  have HV := hide hv
  have H2 := hide hb2
  clear hin hv hb2
  go_wp2_with fail
  refine (goneUp_any a ha m0 m1 m2 m3 m4 _ (unhide HC)).mono ?_
  rintro e w3 ⟨⟨r0, r1, r2, r3, r4, rfl, hcar, hrv⟩, hb3⟩
  have HR := hide hrv
  have HD := hide hcar
  have H3 := hide hb3
  clear hcar hrv hb3
  go_wp2_with fail
  refine (text_any r0 r1 r2 r3 r4 _ (unhide HD)).mono ?_
  rintro e w4 ⟨rfl, hb4⟩
  have E : enc (V5 r0 r1 r2 r3 r4 % pInt) = multB a b := by rw [unhide HR, unhide HV]; rfl
  rw [E]
  go_wp2
  go_ret
  have b2 := unhide H2
  have b3 := unhide H3
  exact ⟨rfl, b2.trans ((b3.trans (hb4.mono b3.size)).mono b2.size)⟩
theorem impl_Mult (a b : ByteArray) (w : World) : Calls Try.prog 11 #[.string a, .string b] w fun e w' => e = .returned (MultV a b) ∧ Below w.heap.size w w' := by
  cases hL : (longB a || longB b) with
  | true =>
    rw [show MultV a b = .tuple #[.string ⟨#[]⟩, .int .i64 2] by simp [MultV, hL]]
    have hc : scode2 a b = 2 := by simp [scode2, hL]
    go_enter Try.func11, Try.ntmps11
    go_wp2_with fail
    refine (size_two a b _ _ (by simp) (by simp)).mono ?_
    rintro e w1 ⟨rfl, rfl⟩
    rw [hc]
    go_wp2
    go_ret2
    exact ⟨rfl, by go_grown⟩
  | false =>
    by_cases h : a.size = 32 ∧ b.size = 32
    · rw [show MultV a b = .tuple #[.string (multB a b), .int .i64 0] by simp [MultV, hL, h]]
      have hc : scode2 a b = 0 := by simp [scode2, hL, h]
      obtain ⟨ha, hb⟩ := h
      go_enter Try.func11, Try.ntmps11
      go_wp2_with fail
      refine (size_two a b _ _ (by simp) (by simp)).mono ?_
      rintro e w1 ⟨rfl, rfl⟩
      rw [hc]
      clear hc hL
      go_wp2_with fail
      refine (mult22 a b ha hb _).mono ?_
      rintro e w4 ⟨rfl, hb4⟩
      go_wp2
      go_ret2
      exact ⟨rfl, ((Below.refl _ _).alloc (Nat.le_refl _) _).trans (hb4.mono (by simp))⟩
    · rw [show MultV a b = .tuple #[.string ⟨#[]⟩, .int .i64 1] by simp [MultV, hL, h]]
      have hc : scode2 a b = 1 := by simp [scode2, hL, h]
      go_enter Try.func11, Try.ntmps11
      go_wp2_with fail
      refine (size_two a b _ _ (by simp) (by simp)).mono ?_
      rintro e w1 ⟨rfl, rfl⟩
      rw [hc]
      go_wp2
      go_ret2
      exact ⟨rfl, by go_grown⟩
theorem law_Mult (a : ByteArray) (ha : a.size ≤ maxLen) (b : ByteArray) (hb : b.size ≤ maxLen) (w : World) : Calls Try.prog 4 #[.string a, .string b] w fun e w' => e = .returned (.bool true) ∧ Below w.heap.size w w' := by
  by_cases h1 : a.size ≤ 1048576
  · by_cases h2 : b.size ≤ 1048576
    · obtain ⟨x, y, hx⟩ : ∃ (x : ByteArray) (y : Int), MultV a b = .tuple #[.string x, .int .i64 y] := by
        unfold MultV; split
        · exact ⟨_, _, rfl⟩
        · split <;> exact ⟨_, _, rfl⟩
      have HX := hide hx
      clear hx
      go_enter Try.func4, Try.ntmps4
      go_wp2_with fail
      refine (spec_Mult a b _).mono ?_
      rintro e w1 ⟨rfl, hb1⟩
      rw [unhide HX]
      go_wp2_with fail
      refine (impl_Mult a b _).mono ?_
      rintro e w2 ⟨rfl, hb2⟩
      rw [unhide HX]
      go_wp2
      go_ret
      exact ⟨rfl, hb1.trans (hb2.mono hb1.size)⟩
    · unfold maxLen at hb
      go_enter Try.func4, Try.ntmps4
      go_wp2
      go_ret
      exact ⟨rfl, Below.refl _ _⟩
  · unfold maxLen at ha
    go_enter Try.func4, Try.ntmps4
    go_wp2
    go_ret
    exact ⟨rfl, Below.refl _ _⟩
end Go.Proofs.Ytncplefjokbbjaa
