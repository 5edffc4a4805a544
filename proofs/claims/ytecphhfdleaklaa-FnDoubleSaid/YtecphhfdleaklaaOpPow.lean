/- Contracts of FieldPower on both sides, and the law of it. -/
import Derived.Test.YtecphhfdleaklaaPow
namespace Go.Proofs.Ytecphhfdleaklaa
open Go.RowKit
set_option maxHeartbeats 1600000
def PowV (a b : ByteArray) : Value := if longB a || longB b then .tuple #[.string ⟨#[]⟩, .int .i64 2] else if okB a && decide (b.size = 32) then .tuple #[.string (enc (((numN a : Int) ^ numN b) % pInt)), .int .i64 0] else .tuple #[.string ⟨#[]⟩, .int .i64 1]
theorem spec_Pow (a b : ByteArray) (ha : a.size ≤ maxLen) (w : World) : Calls Try.prog 33 #[.string a, .string b] w fun e w' => e = .returned (PowV a b) ∧ Below w.heap.size w w' := by
  by_cases hl : 65536 < a.size ∨ 65536 < b.size
  · rw [show PowV a b = .tuple #[.string ⟨#[]⟩, .int .i64 2] by unfold PowV; rw [if_pos (by simp [longB]; exact hl)]]
    by_cases h1 : 65536 < a.size
    · go_enter Try.func33, Try.ntmps33
      go_wp2
      go_ret2
      exact ⟨rfl, Below.refl _ _⟩
    · have h2 : 65536 < b.size := by omega
      go_enter Try.func33, Try.ntmps33
      go_wp2
      go_ret2
      exact ⟨rfl, Below.refl _ _⟩
  · have h1 : a.size ≤ 65536 := by omega
    have h2 : b.size ≤ 65536 := by omega
    have hL : (longB a || longB b) = false := by simp [longB]; omega
    clear hl
    cases hoa : okB a with
    | false =>
      rw [show PowV a b = .tuple #[.string ⟨#[]⟩, .int .i64 1] by simp [PowV, hL, hoa]]
      clear hL
      go_enter Try.func33, Try.ntmps33
      go_wp2_with fail
      refine (spec_ok a ha _).mono ?_
      rintro e w1 ⟨rfl, hb1⟩
      rw [hoa]
      go_wp2
      go_ret2
      exact ⟨rfl, hb1⟩
    | true =>
      by_cases h32 : b.size = 32
      · rw [show PowV a b = .tuple #[.string (enc (((numN a : Int) ^ numN b) % pInt)), .int .i64 0] by simp [PowV, hL, hoa, h32]]
        obtain ⟨sa, va⟩ := ok_parts hoa
        have VA := hide va
        clear hL va
        go_enter Try.func33, Try.ntmps33
        go_wp2_with fail
        refine (spec_ok a ha _).mono ?_
        rintro e w1 ⟨rfl, hb1⟩
        rw [hoa]
        clear hoa
        go_wp2_with fail
        refine (load_any a sa _).mono ?_
        rintro e w2 ⟨rfl, hw2⟩
        have R1 := load_row a w1
        rw [← hw2] at R1
        have hb2 : Below w1.heap.size w1 w2 := by rw [hw2]; exact (Below.refl _ _).alloc (Nat.le_refl _) _
        have H2 := hide hb2
        have HR1 := hide R1
        clear hw2 R1 hb2
        go_wp2_with fail
        refine (lpower_any w2 w1.heap.size 10 _ b h32 (unhide HR1)).mono ?_
        rintro e w4 ⟨k4, rfl, hb4, hr4⟩
        have H4 := hide hb4
        have HR4 := hide hr4
        clear hb4 hr4
        go_wp2_with fail
        refine (store_row w4 k4 10 _ (unhide HR4)).mono ?_
        rintro e w5 ⟨rfl, hb5⟩
        rw [unhide VA]
        go_wp2
        go_ret2
        have b2 := unhide H2
        have b4 := unhide H4
        exact ⟨rfl, hb1.trans ((b2.trans ((b4.trans (hb5.mono b4.size)).mono b2.size)).mono hb1.size)⟩
      · rw [show PowV a b = .tuple #[.string ⟨#[]⟩, .int .i64 1] by simp [PowV, hL, h32]]
        have hd : ((b.size : Int) != 32) = true := by simp; omega
        clear hL
        go_enter Try.func33, Try.ntmps33
        go_wp2_with fail
        refine (spec_ok a ha _).mono ?_
        rintro e w1 ⟨rfl, hb1⟩
        rw [hoa]
        go_wp2
        go_ret2
        exact ⟨rfl, hb1⟩
theorem impl_Pow (a b : ByteArray) (w : World) : Calls Try.prog 31 #[.string a, .string b] w fun e w' => e = .returned (PowV a b) ∧ Below w.heap.size w w' := by
  cases hL : (longB a || longB b) with
  | true =>
    rw [show PowV a b = .tuple #[.string ⟨#[]⟩, .int .i64 2] by simp [PowV, hL]]
    go_enter Try.func31, Try.ntmps31
    go_wp2_with fail
    refine (long_two a b _ _ (by simp) (by simp)).mono ?_
    rintro e w1 ⟨rfl, rfl⟩
    rw [hL]
    go_wp2
    go_ret2
    exact ⟨rfl, by go_grown⟩
  | false =>
    cases hoa : okB a with
    | false =>
      rw [show PowV a b = .tuple #[.string ⟨#[]⟩, .int .i64 1] by simp [PowV, hL, hoa]]
      go_enter Try.func31, Try.ntmps31
      go_wp2_with fail
      refine (long_two a b _ _ (by simp) (by simp)).mono ?_
      rintro e w1 ⟨rfl, rfl⟩
      rw [hL]
      go_wp2_with fail
      refine (impl_ok a _).mono ?_
      rintro e w1 ⟨rfl, hb1⟩
      rw [hoa]
      go_wp2
      go_ret2
      exact ⟨rfl, ((Below.refl _ _).alloc (Nat.le_refl _) _).trans (hb1.mono (by simp))⟩
    | true =>
      by_cases h32 : b.size = 32
      · rw [show PowV a b = .tuple #[.string (enc (((numN a : Int) ^ numN b) % pInt)), .int .i64 0] by simp [PowV, hL, hoa, h32]]
        obtain ⟨sa, va⟩ := ok_parts hoa
        have VA := hide va
        clear va
        go_enter Try.func31, Try.ntmps31
        go_wp2_with fail
        refine (long_two a b _ _ (by simp) (by simp)).mono ?_
        rintro e w1 ⟨rfl, rfl⟩
        rw [hL]
        go_wp2_with fail
        refine (impl_ok a _).mono ?_
        rintro e w1 ⟨rfl, hb1⟩
        rw [hoa]
        have H1 : Hid (Below w.heap.size w w1) := hide (((Below.refl _ _).alloc (Nat.le_refl _) _).trans (hb1.mono (by simp)))
        clear hb1 hoa hL
        go_wp2_with fail
        refine (limbsOf_any a sa _).mono ?_
        rintro e w2 ⟨⟨m0, m1, m2, m3, m4, rfl, hin, hv⟩, hb2⟩
        have H2 := hide hb2
        have HI := hide hin
        have HV := hide hv
        clear hb2 hin hv
        go_wp2_with fail
        refine (power_any m0 m1 m2 m3 m4 b h32 _ (in_car (unhide HI))).mono ?_
        rintro e w4 ⟨⟨r0, r1, r2, r3, r4, rfl, hcar, hrv⟩, hb4⟩
        have H4 := hide hb4
        have HR := hide hrv
        have HC := hide hcar
        clear hb4 hrv hcar
        go_wp2_with fail
        refine (text_any r0 r1 r2 r3 r4 _ (unhide HC)).mono ?_
        rintro e w5 ⟨rfl, hb5⟩
        rw [unhide HR, unhide HV, unhide VA]
        go_wp2
        go_ret2
        have b1 := unhide H1
        have b2 := unhide H2
        have b4 := unhide H4
        exact ⟨rfl, b1.trans ((b2.trans ((b4.trans (hb5.mono b4.size)).mono b2.size)).mono b1.size)⟩
      · rw [show PowV a b = .tuple #[.string ⟨#[]⟩, .int .i64 1] by simp [PowV, hL, h32]]
        have hd : ((b.size : Int) != 32) = true := by simp; omega
        go_enter Try.func31, Try.ntmps31
        go_wp2_with fail
        refine (long_two a b _ _ (by simp) (by simp)).mono ?_
        rintro e w1 ⟨rfl, rfl⟩
        rw [hL]
        go_wp2_with fail
        refine (impl_ok a _).mono ?_
        rintro e w1 ⟨rfl, hb1⟩
        rw [hoa]
        go_wp2
        go_ret2
        exact ⟨rfl, ((Below.refl _ _).alloc (Nat.le_refl _) _).trans (hb1.mono (by simp))⟩
theorem law_Pow (a : ByteArray) (ha : a.size ≤ maxLen) (b : ByteArray) (hb : b.size ≤ maxLen) (w : World) : Calls Try.prog 14 #[.string a, .string b] w fun e w' => e = .returned (.bool true) ∧ Below w.heap.size w w' := by
  by_cases h1 : a.size ≤ 1048576
  · by_cases h2 : b.size ≤ 1048576
    · obtain ⟨x, y, hx⟩ : ∃ (x : ByteArray) (y : Int), PowV a b = .tuple #[.string x, .int .i64 y] := by
        unfold PowV; split
        · exact ⟨_, _, rfl⟩
        · split <;> exact ⟨_, _, rfl⟩
      have HX := hide hx
      clear hx
      go_enter Try.func14, Try.ntmps14
      go_wp2_with fail
      refine (spec_Pow a b ha _).mono ?_
      rintro e w1 ⟨rfl, hb1⟩
      rw [unhide HX]
      go_wp2_with fail
      refine (impl_Pow a b _).mono ?_
      rintro e w2 ⟨rfl, hb2⟩
      rw [unhide HX]
      go_wp2
      go_ret
      exact ⟨rfl, hb1.trans (hb2.mono hb1.size)⟩
    · unfold maxLen at hb
      go_enter Try.func14, Try.ntmps14
      go_wp2
      go_ret
      exact ⟨rfl, Below.refl _ _⟩
  · unfold maxLen at ha
    go_enter Try.func14, Try.ntmps14
    go_wp2
    go_ret
    exact ⟨rfl, Below.refl _ _⟩
end Go.Proofs.Ytecphhfdleaklaa
