/- Digits of 51 bits, a byte at a time. -/
import Derived.Test.YtncplefjokbbjaaDig
namespace Go.Proofs.Ytncplefjokbbjaa
theorem byte_bit (n k u : Nat) : (n / 2 ^ (8 * k) % 2 ^ 8).testBit u = (decide (u < 8) && n.testBit (8 * k + u)) := by
  rw [Nat.testBit_mod_two_pow, Nat.testBit_div_two_pow, Nat.add_comm u]
/-- the limb that a byte falls into -/
theorem fifty_at (n k : Nat) : n % 2 ^ (8 * k + 8) / 2 ^ (51 * (8 * k / 51)) % 2 ^ 51 = (n % 2 ^ (8 * k) / 2 ^ (51 * (8 * k / 51)) % 2 ^ 51) ||| ((n / 2 ^ (8 * k) % 2 ^ 8) * 2 ^ (8 * k % 51) % 2 ^ 51) := by
  apply Nat.eq_of_testBit_eq
  intro t
  have hk := Nat.div_add_mod (8 * k) 51
  have hm := Nat.mod_lt (8 * k) (show 0 < 51 by decide)
  rw [Nat.testBit_or, bit_of, bit_of, Nat.testBit_mod_two_pow, Nat.mul_comm _ (2 ^ (8 * k % 51)), Nat.testBit_two_pow_mul, byte_bit]
  generalize 8 * k / 51 = a at *
  generalize 8 * k % 51 = m at *
  by_cases ht : t < 51
  · by_cases h1 : m ≤ t
    · have e : 8 * k + (t - m) = 51 * a + t := by omega
      have e1 : decide (51 * a + t < 8 * k) = false := by simp; omega
      have e2 : decide (51 * a + t < 8 * k + 8) = decide (t - m < 8) := by congr 1; apply propext; omega
      rw [e, e1, e2]
      simp [ht, h1]
    · have e1 : decide (51 * a + t < 8 * k) = true := by simp; omega
      have e2 : decide (51 * a + t < 8 * k + 8) = true := by simp; omega
      rw [e1, e2]
      simp [ht, h1]
  · simp [ht]
/-- the limb behind it, where the byte runs over -/
theorem fifty_next (n k : Nat) (h : 43 < 8 * k % 51) : n % 2 ^ (8 * k + 8) / 2 ^ (51 * (8 * k / 51 + 1)) % 2 ^ 51 = (n % 2 ^ (8 * k) / 2 ^ (51 * (8 * k / 51 + 1)) % 2 ^ 51) ||| ((n / 2 ^ (8 * k) % 2 ^ 8) / 2 ^ (51 - 8 * k % 51)) := by
  apply Nat.eq_of_testBit_eq
  intro t
  have hk := Nat.div_add_mod (8 * k) 51
  have hm := Nat.mod_lt (8 * k) (show 0 < 51 by decide)
  rw [Nat.testBit_or, bit_of, bit_of, Nat.testBit_div_two_pow, byte_bit]
  generalize 8 * k / 51 = a at *
  generalize 8 * k % 51 = m at *
  have e : 8 * k + (t + (51 - m)) = 51 * (a + 1) + t := by omega
  have e1 : decide (51 * (a + 1) + t < 8 * k) = false := by simp; omega
  have e2 : (decide (t < 51) && decide (51 * (a + 1) + t < 8 * k + 8)) = decide (t + (51 - m) < 8) := by
    rw [Bool.eq_iff_iff]; simp; omega
  rw [e, e1, ← e2]
  simp [Bool.and_assoc]
/-- every other limb stays -/
theorem fifty_other (n k j : Nat) (h1 : j ≠ 8 * k / 51) (h2 : j = 8 * k / 51 + 1 → 8 * k % 51 ≤ 43) : n % 2 ^ (8 * k + 8) / 2 ^ (51 * j) % 2 ^ 51 = n % 2 ^ (8 * k) / 2 ^ (51 * j) % 2 ^ 51 := by
  apply Nat.eq_of_testBit_eq
  intro t
  have hk := Nat.div_add_mod (8 * k) 51
  have hm := Nat.mod_lt (8 * k) (show 0 < 51 by decide)
  rw [bit_of, bit_of]
  generalize 8 * k / 51 = a at *
  generalize 8 * k % 51 = m at *
  by_cases ht : t < 51
  · have e2 : decide (51 * j + t < 8 * k + 8) = decide (51 * j + t < 8 * k) := by
      congr 1; apply propext
      rcases Nat.lt_trichotomy j a with h | h | h
      · omega
      · exact absurd h h1
      · by_cases hj : j = a + 1
        · have := h2 hj; subst hj; omega
        · omega
    rw [e2]
  · simp [ht]
theorem fifty_low (n k : Nat) : n % 2 ^ (8 * k) / 2 ^ (51 * (8 * k / 51 + 1)) % 2 ^ 51 = 0 := by
  have hk := Nat.div_add_mod (8 * k) 51
  have hm := Nat.mod_lt (8 * k) (show 0 < 51 by decide)
  rw [Nat.div_eq_of_lt]
  exact Nat.lt_of_lt_of_le (Nat.mod_lt _ (Nat.two_pow_pos _)) (Nat.pow_le_pow_right (by decide) (by omega))
end Go.Proofs.Ytncplefjokbbjaa
