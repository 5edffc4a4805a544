/- Contracts of clamping on both sides, and the law of ClampScalar. -/
import Derived.Test.YtecphhfdleaklaaMark
import Derived.Test.YtecphhfdleaklaaRead
namespace Go.Proofs.Ytecphhfdleaklaa
open Go.RowKit
set_option maxHeartbeats 800000
/-- the bytes of a scalar, clamped -/
def clampL (xs : List Int) : List Int := (xs.set 0 (bits .and .u8 (xs.getD 0 0) 248)).set 31 (bits .or .u8 (bits .and .u8 (xs.getD 31 0) 127) 64)
def clampB (s : ByteArray) : ByteArray := strOfNums (clampL (byteI s))
theorem clampL_len (xs : List Int) : (clampL xs).length = xs.length := by simp [clampL]
theorem clampB_size (s : ByteArray) : (clampB s).size = s.size := by
  have : (clampB s).size = (clampL (byteI s)).length := by simp [clampB, strOfNums, ByteArray.size]
  rw [this, clampL_len, byteI_len]
theorem clamped_any (s : ByteArray) (hs : s.size = 32) (w : World) : Calls Try.prog 76 #[.string s] w fun e w' => e = .returned (.string (clampB s)) ∧ Below w.heap.size w w' := by
  obtain ⟨cap, rest, hcap, hc⟩ := str_bytes s w
  have hl := byteI_len s
  rw [hs] at hcap hc hl
  unfold clampB
  generalize byteI s = xs at *
  go_enter Try.func76, Try.ntmps76
  go_wp2
  go_ret
  refine ⟨?_, below_rowM _ _ _ _ _ _ (by go_grown) (Nat.le_refl _)⟩
  simp [clampL, hl]
theorem lclamp_any (s : ByteArray) (hs : s.size = 32) (w : World) : Calls Try.prog 86 #[.string s] w fun e w' => e = .returned (.string (clampB s)) ∧ Below w.heap.size w w' := by
  obtain ⟨cap, rest, hcap, hc⟩ := str_bytes s w
  have hl := byteI_len s
  rw [hs] at hcap hc hl
  unfold clampB
  generalize byteI s = xs at *
  go_enter Try.func86, Try.ntmps86
  go_wp2
  go_ret
  refine ⟨?_, below_rowM _ _ _ _ _ _ (by go_grown) (Nat.le_refl _)⟩
  simp [clampL, hl]
def ClampV (s : ByteArray) : Value := if 65536 < s.size then .tuple #[.string ⟨#[]⟩, .int .i64 2] else if s.size = 32 then .tuple #[.string (clampB s), .int .i64 0] else .tuple #[.string ⟨#[]⟩, .int .i64 1]
theorem spec_Clamp (s : ByteArray) (w : World) : Calls Try.prog 50 #[.string s] w fun e w' => e = .returned (ClampV s) ∧ Below w.heap.size w w' := by
  by_cases hl : 65536 < s.size
  · rw [ClampV, if_pos hl]
    go_enter Try.func50, Try.ntmps50
    go_wp2
    go_ret2
    exact ⟨rfl, Below.refl _ _⟩
  · by_cases h : s.size = 32
    · rw [ClampV, if_neg hl, if_pos h]
      go_enter Try.func50, Try.ntmps50
      go_wp2_with fail
      refine (lclamp_any s h _).mono ?_
      rintro e w1 ⟨rfl, hb⟩
      go_wp2
      go_ret2
      exact ⟨rfl, hb⟩
    · rw [ClampV, if_neg hl, if_neg h]
      have hd : ((s.size : Int) != 32) = true := by simp; omega
      go_enter Try.func50, Try.ntmps50
      go_wp2
      go_ret2
      exact ⟨rfl, Below.refl _ _⟩
theorem impl_Clamp (s : ByteArray) (w : World) : Calls Try.prog 38 #[.string s] w fun e w' => e = .returned (ClampV s) ∧ Below w.heap.size w w' := by
  by_cases hl : 65536 < s.size
  · rw [ClampV, if_pos hl]
    have hL : scode1 s = 2 := by simp [scode1, long_t hl]
    go_enter Try.func38, Try.ntmps38
    go_wp2_with fail
    refine (size_one s _ _ (by simp)).mono ?_
    rintro e w1 ⟨rfl, rfl⟩
    rw [hL]
    go_wp2
    go_ret2
    exact ⟨rfl, by go_grown⟩
  · by_cases h : s.size = 32
    · rw [ClampV, if_neg hl, if_pos h]
      have hL : scode1 s = 0 := by simp [scode1, long_f hl, h]
      go_enter Try.func38, Try.ntmps38
      go_wp2_with fail
      refine (size_one s _ _ (by simp)).mono ?_
      rintro e w1 ⟨rfl, rfl⟩
      rw [hL]
      go_wp2_with fail
      refine (clamped_any s h _).mono ?_
      rintro e w1 ⟨rfl, hb⟩
      go_wp2
      go_ret2
      exact ⟨rfl, ((Below.refl _ _).alloc (Nat.le_refl _) _).trans (hb.mono (by simp))⟩
    · rw [ClampV, if_neg hl, if_neg h]
      have hL : scode1 s = 1 := by simp [scode1, long_f hl, h]
      go_enter Try.func38, Try.ntmps38
      go_wp2_with fail
      refine (size_one s _ _ (by simp)).mono ?_
      rintro e w1 ⟨rfl, rfl⟩
      rw [hL]
      go_wp2
      go_ret2
      exact ⟨rfl, by go_grown⟩
theorem law_Clamp (s : ByteArray) (hs : s.size ≤ maxLen) (w : World) : Calls Try.prog 16 #[.string s] w fun e w' => e = .returned (.bool true) ∧ Below w.heap.size w w' := by
  unfold maxLen at hs
  by_cases h1 : s.size ≤ 1048576
  · obtain ⟨x, y, hx⟩ : ∃ (x : ByteArray) (y : Int), ClampV s = .tuple #[.string x, .int .i64 y] := by
      unfold ClampV; split
      · exact ⟨_, _, rfl⟩
      · split <;> exact ⟨_, _, rfl⟩
    have HX := hide hx
    clear hx
    go_enter Try.func16, Try.ntmps16
    go_wp2_with fail
    refine (spec_Clamp s _).mono ?_
    rintro e w1 ⟨rfl, hb1⟩
    rw [unhide HX]
    go_wp2_with fail
    refine (impl_Clamp s _).mono ?_
    rintro e w2 ⟨rfl, hb2⟩
    rw [unhide HX]
    go_wp2
    go_ret
    exact ⟨rfl, hb1.trans (hb2.mono hb1.size)⟩
  · go_enter Try.func16, Try.ntmps16
    go_wp2
    go_ret
    exact ⟨rfl, Below.refl _ _⟩
end Go.Proofs.Ytecphhfdleaklaa
