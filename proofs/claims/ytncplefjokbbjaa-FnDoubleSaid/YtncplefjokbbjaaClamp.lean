/- Contracts of clamping on both sides, and the law of ClampScalar. -/
import Derived.Test.YtncplefjokbbjaaMark
import Derived.Test.YtncplefjokbbjaaRead
namespace Go.Proofs.Ytncplefjokbbjaa
open Go.RowKit
set_option maxHeartbeats 800000
/-- the bytes of a scalar, clamped -/
def clampL (xs : List Int) : List Int := (xs.set 0 (bits .and .u8 (xs.getD 0 0) 248)).set 31 (bits .or .u8 (bits .and .u8 (xs.getD 31 0) 127) 64)
def clampB (s : ByteArray) : ByteArray := strOfNums (clampL (byteI s))
theorem clampL_len (xs : List Int) : (clampL xs).length = xs.length := by simp [clampL]
theorem clampB_size (s : ByteArray) : (clampB s).size = s.size := by
  have : (clampB s).size = (clampL (byteI s)).length := by simp [clampB, strOfNums, ByteArray.size]
  rw [this, clampL_len, byteI_len]
theorem clamped_any (s : ByteArray) (hs : s.size = 32) (w : World) : Calls Try.prog 31 #[.string s] w fun e w' => e = .returned (.string (clampB s)) ∧ Below w.heap.size w w' := by
  obtain ⟨cap, rest, hcap, hc⟩ := str_bytes s w
  have hl := byteI_len s
  rw [hs] at hcap hc hl
  unfold clampB
  generalize byteI s = xs at *
  go_enter Try.func31, Try.ntmps31
  go_wp2
  go_ret
  refine ⟨?_, below_rowM _ _ _ _ _ _ (by go_grown) (Nat.le_refl _)⟩
  simp [clampL, hl]
theorem lclamp_any (s : ByteArray) (hs : s.size = 32) (w : World) : Calls Try.prog 44 #[.string s] w fun e w' => e = .returned (.string (clampB s)) ∧ Below w.heap.size w w' := by
  obtain ⟨cap, rest, hcap, hc⟩ := str_bytes s w
  have hl := byteI_len s
  rw [hs] at hcap hc hl
  unfold clampB
  generalize byteI s = xs at *
  go_enter Try.func44, Try.ntmps44
  go_wp2
  go_ret
  refine ⟨?_, below_rowM _ _ _ _ _ _ (by go_grown) (Nat.le_refl _)⟩
  simp [clampL, hl]
def ClampV (s : ByteArray) : Value := if 65536 < s.size then .tuple #[.string ⟨#[]⟩, .int .i64 2] else if s.size = 32 then .tuple #[.string (clampB s), .int .i64 0] else .tuple #[.string ⟨#[]⟩, .int .i64 1]
theorem impl_Clamp (s : ByteArray) (w : World) : Calls Try.prog 16 #[.string s] w fun e w' => e = .returned (ClampV s) ∧ Below w.heap.size w w' := by
  by_cases hl : 65536 < s.size
  · rw [ClampV, if_pos hl]
    have hL : scode1 s = 2 := by simp [scode1, long_t hl]
    go_enter Try.func16, Try.ntmps16
    go_wp2_with fail
    refine (size_one s _ _ (by simp)).mono ?_
    rintro e w1 ⟨rfl, rfl⟩
    rw [hL]
    go_wp2
    go_ret2
    exact ⟨rfl, by go_grown⟩
  · by_cases h : s.size = 32
    · rw [ClampV, if_neg hl, if_pos h]
      have hL : scode1 s = 0 := by simp [scode1, long_f hl, h]
      go_enter Try.func16, Try.ntmps16
      go_wp2_with fail
      refine (size_one s _ _ (by simp)).mono ?_
      rintro e w1 ⟨rfl, rfl⟩
      rw [hL]
      go_wp2_with fail
      refine (clamped_any s h _).mono ?_
      rintro e w1 ⟨rfl, hb⟩
      go_wp2
      go_ret2
      exact ⟨rfl, ((Below.refl _ _).alloc (Nat.le_refl _) _).trans (hb.mono (by simp))⟩
    · rw [ClampV, if_neg hl, if_neg h]
      have hL : scode1 s = 1 := by simp [scode1, long_f hl, h]
      go_enter Try.func16, Try.ntmps16
      go_wp2_with fail
      refine (size_one s _ _ (by simp)).mono ?_
      rintro e w1 ⟨rfl, rfl⟩
      rw [hL]
      go_wp2
      go_ret2
      exact ⟨rfl, by go_grown⟩
end Go.Proofs.Ytncplefjokbbjaa
