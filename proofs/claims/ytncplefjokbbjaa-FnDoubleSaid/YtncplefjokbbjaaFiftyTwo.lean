/- The limbs of 51 bits behind one byte more, as lists; and the words that are stored. -/
import Derived.Test.YtncplefjokbbjaaFifty
import Derived.Test.YtncplefjokbbjaaLe
namespace Go.Proofs.Ytncplefjokbbjaa
open Go.RowKit
theorem byte_of (s : ByteArray) (k : Nat) (h : k < s.size) : numN s / 2 ^ (8 * k) % 2 ^ 8 = s[k].toNat := by
  have hc := UInt8.toNat_lt s[k]
  apply Nat.eq_of_testBit_eq
  intro u
  rw [byte_bit]
  by_cases hu : u < 8
  · have e1 : (8 * k + u) / 8 = k := by omega
    have e2 : (8 * k + u) % 8 = u := by omega
    have hb := numN_bit s (8 * k + u) (by omega)
    simp only [e1, e2] at hb
    simp [hu, hb]
  · have : s[k].toNat.testBit u = false := Nat.testBit_lt_two_pow (Nat.lt_of_lt_of_le hc (Nat.pow_le_pow_right (by decide) (by omega)))
    simp [hu, this]
theorem dig51_one (n k : Nat) (hq : k * 8 / 51 < 5) (h : ¬ (43 < k * 8 % 51 ∧ k * 8 / 51 + 1 < 5)) : dig 51 5 n ((k + 1) * 8) = (dig 51 5 n (k * 8)).set (k * 8 / 51) ((dig 51 5 n (k * 8)).getD (k * 8 / 51) 0 ||| ((n / 2 ^ (8 * k) % 2 ^ 8) * 2 ^ (k * 8 % 51) % 2 ^ 51)) := by
  rw [show (k + 1) * 8 = 8 * k + 8 from by omega, show k * 8 = 8 * k from by omega] at *
  apply List.ext_getElem
  · simp [dig]
  · intro i h1 h2
    have hi : i < 5 := by simpa [dig] using h1
    by_cases e : 8 * k / 51 = i
    · subst e
      rw [List.getElem_set_self, dig_get _ _ _ _ _ hq]
      simp only [dig, List.getElem_map, List.getElem_range]
      exact fifty_at n k
    · rw [List.getElem_set_ne e]
      simp only [dig, List.getElem_map, List.getElem_range]
      exact fifty_other n k i (by omega) (by omega)
theorem dig51_two (n k : Nat) (h1 : 43 < k * 8 % 51) (h2 : k * 8 / 51 + 1 < 5) : dig 51 5 n ((k + 1) * 8) = ((dig 51 5 n (k * 8)).set (k * 8 / 51) ((dig 51 5 n (k * 8)).getD (k * 8 / 51) 0 ||| ((n / 2 ^ (8 * k) % 2 ^ 8) * 2 ^ (k * 8 % 51) % 2 ^ 51))).set (k * 8 / 51 + 1) ((dig 51 5 n (k * 8)).getD (k * 8 / 51 + 1) 0 ||| ((n / 2 ^ (8 * k) % 2 ^ 8) / 2 ^ (51 - k * 8 % 51))) := by
  rw [show (k + 1) * 8 = 8 * k + 8 from by omega, show k * 8 = 8 * k from by omega] at *
  apply List.ext_getElem
  · simp [dig]
  · intro i g1 g2
    have hi : i < 5 := by simpa [dig] using g1
    by_cases e2 : 8 * k / 51 + 1 = i
    · subst e2
      rw [List.getElem_set_self, dig_get _ _ _ _ _ h2]
      simp only [dig, List.getElem_map, List.getElem_range]
      exact fifty_next n k h1
    · rw [List.getElem_set_ne e2]
      by_cases e : 8 * k / 51 = i
      · subst e
        rw [List.getElem_set_self, dig_get _ _ _ _ _ (by omega)]
        simp only [dig, List.getElem_map, List.getElem_range]
        exact fifty_at n k
      · rw [List.getElem_set_ne e]
        simp only [dig, List.getElem_map, List.getElem_range]
        exact fifty_other n k i (by omega) (by omega)
theorem dig_lt (d L n k j : Nat) : (dig d L n k).getD j 0 < 2 ^ d := by
  by_cases h : j < L
  · rw [dig_get _ _ _ _ _ h]; exact Nat.mod_lt _ (Nat.two_pow_pos _)
  · rw [List.getD_eq_getElem?_getD, List.getElem?_eq_none (by rw [dig_len]; omega)]; exact Nat.two_pow_pos _
theorem word_at (c : UInt8) (t X : Nat) (ht : t ≤ 50) (hX : X < 2 ^ 51) : bits .or .u64 (X : Int) (bits .and .u64 (IntKind.u64.wrap (IntKind.u64.wrap (c.toNat : Int) * 2 ^ t)) 2251799813685247) = ((X ||| (c.toNat * 2 ^ t % 2 ^ 51) : Nat) : Int) := by
  have hc := UInt8.toNat_lt c
  have hp : 2 ^ t ≤ 2 ^ 50 := Nat.pow_le_pow_right (by decide) ht
  have e : ((c.toNat : Int) * 2 ^ t) = ((c.toNat * 2 ^ t : Nat) : Int) := by simp
  have hm : c.toNat * 2 ^ t ≤ 255 * 2 ^ 50 := Nat.mul_le_mul (by omega) hp
  rw [IntKind.wrap_u64 (c.toNat : Int), Int.emod_eq_of_lt (a := (c.toNat : Int)) (by omega) (by omega), IntKind.wrap_u64, e]
  generalize c.toNat * 2 ^ t = y at *
  rw [Int.emod_eq_of_lt (a := (y : Int)) (by omega) (by omega), mask51 _ (by omega) (by omega), show ((y : Int) % 2251799813685248) = ((y % 2 ^ 51 : Nat) : Int) from by omega]
  exact u64_or_nat X (y % 2 ^ 51) (by omega) (by omega)
theorem word_next (c : UInt8) (t X : Nat) (hX : X < 2 ^ 51) : bits .or .u64 (X : Int) (IntKind.u64.wrap (c.toNat : Int) / 2 ^ t) = ((X ||| (c.toNat / 2 ^ t) : Nat) : Int) := by
  have hc := UInt8.toNat_lt c
  have e : ((c.toNat : Int) / 2 ^ t) = ((c.toNat / 2 ^ t : Nat) : Int) := by simp
  have hm : c.toNat / 2 ^ t ≤ c.toNat := Nat.div_le_self _ _
  rw [IntKind.wrap_u64, Int.emod_eq_of_lt (a := (c.toNat : Int)) (by omega) (by omega), e]
  generalize c.toNat / 2 ^ t = y at *
  exact u64_or_nat X y (by omega) (by omega)
theorem digI_getD (d L n k j : Nat) : (digI d L n k).getD j 0 = (((dig d L n k).getD j 0 : Nat) : Int) := by
  rw [List.getD_eq_getElem?_getD, digI_get]
theorem digI_one (s : ByteArray) (k : Nat) (hk : k < s.size) (hq : k * 8 / 51 < 5) (h : ¬ (43 < k * 8 % 51 ∧ k * 8 / 51 + 1 < 5)) : digI 51 5 (numN s) ((k + 1) * 8) = (digI 51 5 (numN s) (k * 8)).set (k * 8 / 51) (bits .or .u64 ((digI 51 5 (numN s) (k * 8)).getD (k * 8 / 51) 0) (bits .and .u64 (IntKind.u64.wrap (IntKind.u64.wrap (s[k].toNat : Int) * 2 ^ (k * 8 % 51))) 2251799813685247)) := by
  rw [digI_getD, word_at _ _ _ (by omega) (dig_lt _ _ _ _ _)]
  unfold digI
  rw [dig51_one _ _ hq h, byte_of s k hk, List.map_set]
  rfl
theorem digI_two (s : ByteArray) (k : Nat) (hk : k < s.size) (h1 : 43 < k * 8 % 51) (h2 : k * 8 / 51 + 1 < 5) : digI 51 5 (numN s) ((k + 1) * 8) = ((digI 51 5 (numN s) (k * 8)).set (k * 8 / 51) (bits .or .u64 ((digI 51 5 (numN s) (k * 8)).getD (k * 8 / 51) 0) (bits .and .u64 (IntKind.u64.wrap (IntKind.u64.wrap (s[k].toNat : Int) * 2 ^ (k * 8 % 51))) 2251799813685247))).set (k * 8 / 51 + 1) (bits .or .u64 ((digI 51 5 (numN s) (k * 8)).getD (k * 8 / 51 + 1) 0) (IntKind.u64.wrap (s[k].toNat : Int) / 2 ^ (51 - k * 8 % 51))) := by
  rw [digI_getD, digI_getD, word_at _ _ _ (by omega) (dig_lt _ _ _ _ _), word_next _ _ _ (dig_lt _ _ _ _ _)]
  unfold digI
  rw [dig51_two _ _ h1 h2, byte_of s k hk, List.map_set, List.map_set]
  rfl
end Go.Proofs.Ytncplefjokbbjaa
