/- Digits of a number, bit by bit. -/
namespace Go.Proofs.Ytncplefjokbbjaa
/-- L digits of d bits of the k lowest bits of n -/
def dig (d L n k : Nat) : List Nat := (List.range L).map fun j => n % 2 ^ k / 2 ^ (d * j) % 2 ^ d
theorem dig_len (d L n k : Nat) : (dig d L n k).length = L := by simp [dig]
theorem dig_get (d L n k j : Nat) (h : j < L) : (dig d L n k).getD j 0 = n % 2 ^ k / 2 ^ (d * j) % 2 ^ d := by
  simp [dig, h]
theorem dig_zero (d L n : Nat) : dig d L n 0 = List.replicate L 0 := by
  apply List.ext_getElem
  · simp [dig]
  · intro i h1 h2
    simp [dig, Nat.mod_one]
theorem bit_of (d n k j t : Nat) : (n % 2 ^ k / 2 ^ (d * j) % 2 ^ d).testBit t = (decide (t < d) && (decide (d * j + t < k) && n.testBit (d * j + t))) := by
  rw [Nat.testBit_mod_two_pow, Nat.testBit_div_two_pow, Nat.testBit_mod_two_pow, Nat.add_comm t]
theorem low (d n k : Nat) : n % 2 ^ k / 2 ^ (d * (k / d)) % 2 ^ d < 2 ^ (k % d) := by
  have h1 : n % 2 ^ k / 2 ^ (d * (k / d)) < 2 ^ (k % d) := by
    rw [Nat.div_lt_iff_lt_mul (Nat.two_pow_pos _), ← Nat.pow_add, Nat.add_comm, Nat.div_add_mod]
    exact Nat.mod_lt _ (Nat.two_pow_pos _)
  exact Nat.lt_of_le_of_lt (Nat.mod_le _ _) h1
theorem or_add (a t : Nat) (h : a < 2 ^ t) : a ||| 2 ^ t = a + 2 ^ t := by
  have := Nat.two_pow_add_eq_or_of_lt h 1
  rw [Nat.mul_one] at this
  rw [Nat.or_comm, ← this, Nat.add_comm]
theorem dig_other (d n k j : Nat) (hd : 0 < d) (h : j ≠ k / d) : n % 2 ^ (k + 1) / 2 ^ (d * j) % 2 ^ d = n % 2 ^ k / 2 ^ (d * j) % 2 ^ d := by
  apply Nat.eq_of_testBit_eq
  intro t
  rw [bit_of, bit_of]
  by_cases ht : t < d
  · have : d * j + t ≠ k := by
      intro e
      apply h
      rw [← e, Nat.mul_add_div hd, Nat.div_eq_of_lt ht]; rfl
    have e2 : decide (d * j + t < k + 1) = decide (d * j + t < k) := by
      congr 1; apply propext; omega
    rw [e2]
  · simp [ht]
theorem dig_hit (d n k : Nat) (hd : 0 < d) (hb : n.testBit k = true) : n % 2 ^ (k + 1) / 2 ^ (d * (k / d)) % 2 ^ d = n % 2 ^ k / 2 ^ (d * (k / d)) % 2 ^ d + 2 ^ (k % d) := by
  rw [← or_add _ _ (low d n k)]
  apply Nat.eq_of_testBit_eq
  intro t
  rw [Nat.testBit_or, bit_of, bit_of, Nat.testBit_two_pow]
  have hk := Nat.div_add_mod k d
  by_cases ht : t = k % d
  · subst ht
    have : k % d < d := Nat.mod_lt _ hd
    rw [hk]
    simp [this, hb]
  · have e1 : decide (k % d = t) = false := by simp; omega
    have e2 : decide (d * (k / d) + t < k + 1) = decide (d * (k / d) + t < k) := by
      congr 1; apply propext; omega
    rw [e1, e2, Bool.or_false]
theorem dig_miss (n k : Nat) (hb : n.testBit k = false) : n % 2 ^ (k + 1) = n % 2 ^ k := by
  apply Nat.eq_of_testBit_eq
  intro t
  rw [Nat.testBit_mod_two_pow, Nat.testBit_mod_two_pow]
  by_cases ht : t = k
  · subst ht; simp [hb]
  · have e2 : decide (t < k + 1) = decide (t < k) := by congr 1; apply propext; omega
    rw [e2]
theorem dig_step (d L n k : Nat) (hd : 0 < d) (_hk : k / d < L) (hb : n.testBit k = true) : dig d L n (k + 1) = (dig d L n k).set (k / d) ((dig d L n k).getD (k / d) 0 + 2 ^ (k % d)) := by
  apply List.ext_getElem
  · simp [dig]
  · intro i h1 h2
    have hi : i < L := by simpa [dig] using h1
    by_cases e : k / d = i
    · subst e
      rw [List.getElem_set_self, dig_get _ _ _ _ _ hi]
      simp only [dig, List.getElem_map, List.getElem_range]
      exact dig_hit d n k hd hb
    · rw [List.getElem_set_ne e]
      simp only [dig, List.getElem_map, List.getElem_range]
      exact dig_other d n k i hd (by omega)
theorem dig_stay (d L n k : Nat) (hb : n.testBit k = false) : dig d L n (k + 1) = dig d L n k := by
  simp [dig, dig_miss n k hb]
end Go.Proofs.Ytncplefjokbbjaa
