/- The sums of products of ten limbs by ten, and their carries, as lists. -/
import Derived.Test.YtncplefjokbbjaaAddSub
namespace Go.Proofs.Ytncplefjokbbjaa
def valL : List Int → Int
  | [] => 0
  | a :: l => a + 67108864 * valL l
theorem valL_set : ∀ (l : List Int) (i : Nat) (v : Int), i < l.length → valL (l.set i v) = valL l + 67108864 ^ i * (v - l.getD i 0)
  | [], i, v, h => by simp at h
  | a :: l, 0, v, _ => by simp only [List.set_cons_zero, valL, List.getD_cons_zero, Int.pow_zero, Int.one_mul]; omega
  | a :: l, i + 1, v, h => by
    have hl : i < l.length := by simpa using h
    rw [List.set_cons_succ, valL, valL_set l i v hl, List.getD_cons_succ, valL, Int.pow_succ]
    grind
/-- the sums behind n products -/
def cTo (xs ys : List Int) : Nat → List Int
  | 0 => List.replicate 20 0
  | n + 1 => (cTo xs ys n).set (n / 10 + n % 10) ((cTo xs ys n).getD (n / 10 + n % 10) 0 + xs.getD (n / 10) 0 * ys.getD (n % 10) 0)
theorem cTo_len (xs ys : List Int) : ∀ n, (cTo xs ys n).length = 20
  | 0 => by simp [cTo]
  | n + 1 => by simp [cTo, cTo_len xs ys n]
theorem cTo_succ (xs ys : List Int) (i k : Nat) (hk : k < 10) : cTo xs ys (10 * i + (k + 1)) = (cTo xs ys (10 * i + k)).set (i + k) ((cTo xs ys (10 * i + k)).getD (i + k) 0 + xs.getD i 0 * ys.getD k 0) := by
  have e1 : (10 * i + k) / 10 = i := by omega
  have e2 : (10 * i + k) % 10 = k := by omega
  rw [show 10 * i + (k + 1) = 10 * i + k + 1 from rfl, cTo, e1, e2]
theorem getD_set (l : List Int) (i j : Nat) (v : Int) : (l.set i v).getD j 0 = if i = j ∧ j < l.length then v else l.getD j 0 := by
  rw [List.getD_eq_getElem?_getD, List.getElem?_set, List.getD_eq_getElem?_getD]
  by_cases h : i = j
  · subst h
    by_cases h2 : i < l.length
    · simp [h2]
    · simp [h2]
  · simp [h]
theorem cTo_bd (xs ys : List Int) (hx : ∀ k, 0 ≤ xs.getD k 0 ∧ xs.getD k 0 < 67108864) (hy : ∀ k, 0 ≤ ys.getD k 0 ∧ ys.getD k 0 < 67108864) : ∀ n j, 0 ≤ (cTo xs ys n).getD j 0 ∧ (cTo xs ys n).getD j 0 ≤ n * 4503599627370496
  | 0, j => by
    simp only [cTo, List.getD_eq_getElem?_getD, List.getElem?_replicate]
    split <;> simp
  | n + 1, j => by
    have ih := cTo_bd xs ys hx hy n
    have h1 := hx (n / 10)
    have h2 := hy (n % 10)
    have h3 : 0 ≤ xs.getD (n / 10) 0 * ys.getD (n % 10) 0 := Int.mul_nonneg h1.1 h2.1
    have h4 : xs.getD (n / 10) 0 * ys.getD (n % 10) 0 ≤ 67108863 * 67108863 := Int.mul_le_mul (by omega) (by omega) h2.1 (by omega)
    rw [cTo, getD_set]
    split
    · have := ih (n / 10 + n % 10)
      omega
    · have := ih j
      omega
theorem cTo_last (xs ys : List Int) : ∀ n, n ≤ 100 → (cTo xs ys n).getD 19 0 = 0
  | 0, _ => by simp [cTo, List.getD_eq_getElem?_getD]
  | n + 1, h => by
    rw [cTo, getD_set, if_neg (by omega)]
    exact cTo_last xs ys n (by omega)
/-- the number of the first k limbs -/
def valT (ys : List Int) : Nat → Int
  | 0 => 0
  | k + 1 => valT ys k + 67108864 ^ k * ys.getD k 0
theorem cTo_row (xs ys : List Int) (i : Nat) (hi : i < 10) : ∀ k, k ≤ 10 → valL (cTo xs ys (10 * i + k)) = valL (cTo xs ys (10 * i)) + 67108864 ^ i * (xs.getD i 0 * valT ys k)
  | 0, _ => by simp [valT]
  | k + 1, h => by
    rw [cTo_succ xs ys i k (by omega), valL_set _ _ _ (by rw [cTo_len]; omega), cTo_row xs ys i hi k (by omega), valT, Int.pow_add]
    generalize (67108864 : Int) ^ i = p
    generalize (67108864 : Int) ^ k = q
    grind
theorem cTo_all (xs ys : List Int) : ∀ i, i ≤ 10 → valL (cTo xs ys (10 * i)) = valT xs i * valT ys 10
  | 0, _ => by simp [cTo, valT, valL, List.replicate]
  | i + 1, h => by
    rw [show 10 * (i + 1) = 10 * i + 10 from by omega, cTo_row xs ys i (by omega) 10 (Nat.le_refl _), cTo_all xs ys i (by omega)]
    simp only [valT]
    generalize (67108864 : Int) ^ i = p
    grind
theorem valT_ten (x0 x1 x2 x3 x4 x5 x6 x7 x8 x9 : Int) : valT [x0, x1, x2, x3, x4, x5, x6, x7, x8, x9] 10 = V10 x0 x1 x2 x3 x4 x5 x6 x7 x8 x9 := by
  simp only [valT, V10, List.getD_cons_succ, List.getD_cons_zero]
  omega
/-- one carry -/
def chStep (l : List Int) (i : Nat) : List Int := (l.set i (l.getD i 0 - l.getD i 0 / 67108864 * 67108864)).set (i + 1) (l.getD (i + 1) 0 + l.getD i 0 / 67108864)
def chTo (l : List Int) : Nat → List Int
  | 0 => l
  | n + 1 => chStep (chTo l n) n
theorem chTo_len (l : List Int) : ∀ n, (chTo l n).length = l.length
  | 0 => rfl
  | n + 1 => by simp [chTo, chStep, chTo_len l n]
theorem chStep_val (l : List Int) (i : Nat) (h : i + 1 < l.length) : valL (chStep l i) = valL l := by
  unfold chStep
  rw [valL_set _ _ _ (by rw [List.length_set]; exact h), valL_set _ _ _ (by omega), getD_set, if_neg (by omega), Int.pow_succ]
  grind
theorem chTo_val (l : List Int) : ∀ n, n < l.length → valL (chTo l n) = valL l
  | 0, _ => rfl
  | n + 1, h => by rw [chTo, chStep_val _ _ (by rw [chTo_len]; exact h), chTo_val l n (by omega)]
theorem chTo_far (l : List Int) : ∀ n j, n < j → (chTo l n).getD j 0 = l.getD j 0
  | 0, j, _ => rfl
  | n + 1, j, h => by
    rw [chTo, chStep, getD_set, if_neg (by omega), getD_set, if_neg (by omega)]
    exact chTo_far l n j (by omega)
theorem chTo_bd (l : List Int) (hl : l.length = 20) (hb : ∀ j, 0 ≤ l.getD j 0 ∧ l.getD j 0 ≤ 450359962737049600) : ∀ n, n ≤ 19 → (∀ j, j < n → 0 ≤ (chTo l n).getD j 0 ∧ (chTo l n).getD j 0 < 67108864) ∧ 0 ≤ (chTo l n).getD n 0 ∧ (chTo l n).getD n 0 ≤ l.getD n 0 + 6710886500
  | 0, _ => ⟨fun j hj => absurd hj (Nat.not_lt_zero _), (hb 0).1, by show l.getD 0 0 ≤ _; omega⟩
  | n + 1, h => by
    obtain ⟨h1, h2, h3⟩ := chTo_bd l hl hb n (by omega)
    have hlen := chTo_len l n
    have hf := chTo_far l n (n + 1) (Nat.lt_succ_self n)
    have b0 := hb n
    have b1 := hb (n + 1)
    refine ⟨fun j hj => ?_, ?_, ?_⟩
    · rw [chTo, chStep, getD_set, if_neg (by omega), getD_set]
      split
      · omega
      · exact h1 j (by omega)
    · rw [chTo, chStep, getD_set, if_pos ⟨rfl, by rw [List.length_set]; omega⟩, hf]
      omega
    · rw [chTo, chStep, getD_set, if_pos ⟨rfl, by rw [List.length_set]; omega⟩, hf]
      omega
theorem list20 (l : List Int) (h : l.length = 20) : ∃ c0 c1 c2 c3 c4 c5 c6 c7 c8 c9 c10 c11 c12 c13 c14 c15 c16 c17 c18 c19 : Int, l = [c0, c1, c2, c3, c4, c5, c6, c7, c8, c9, c10, c11, c12, c13, c14, c15, c16, c17, c18, c19] := by
  rcases l with _ | ⟨c0, l⟩
  · simp at h
  rcases l with _ | ⟨c1, l⟩
  · simp at h
  rcases l with _ | ⟨c2, l⟩
  · simp at h
  rcases l with _ | ⟨c3, l⟩
  · simp at h
  rcases l with _ | ⟨c4, l⟩
  · simp at h
  rcases l with _ | ⟨c5, l⟩
  · simp at h
  rcases l with _ | ⟨c6, l⟩
  · simp at h
  rcases l with _ | ⟨c7, l⟩
  · simp at h
  rcases l with _ | ⟨c8, l⟩
  · simp at h
  rcases l with _ | ⟨c9, l⟩
  · simp at h
  rcases l with _ | ⟨c10, l⟩
  · simp at h
  rcases l with _ | ⟨c11, l⟩
  · simp at h
  rcases l with _ | ⟨c12, l⟩
  · simp at h
  rcases l with _ | ⟨c13, l⟩
  · simp at h
  rcases l with _ | ⟨c14, l⟩
  · simp at h
  rcases l with _ | ⟨c15, l⟩
  · simp at h
  rcases l with _ | ⟨c16, l⟩
  · simp at h
  rcases l with _ | ⟨c17, l⟩
  · simp at h
  rcases l with _ | ⟨c18, l⟩
  · simp at h
  rcases l with _ | ⟨c19, l⟩
  · simp at h
  rcases l with _ | ⟨d, l⟩
  · exact ⟨c0, c1, c2, c3, c4, c5, c6, c7, c8, c9, c10, c11, c12, c13, c14, c15, c16, c17, c18, c19, rfl⟩
  · simp at h
/-- the upper half folded onto the lower -/
def oTo (l : List Int) (k : Nat) : List Int := (List.range 10).map fun j => if j < k then l.getD j 0 + 608 * l.getD (j + 10) 0 else 0
theorem oTo_succ (l : List Int) (k : Nat) : oTo l (k + 1) = (oTo l k).set k (l.getD k 0 + 608 * l.getD (k + 10) 0) := by
  apply List.ext_getElem
  · simp [oTo]
  · intro i h1 h2
    by_cases e : k = i
    · subst e
      rw [List.getElem_set_self]
      simp [oTo]
    · rw [List.getElem_set_ne e]
      simp only [oTo, List.getElem_map, List.getElem_range]
      by_cases hik : i < k
      · rw [if_pos (by omega), if_pos hik]
      · rw [if_neg (by omega), if_neg hik]
theorem fold_val (c0 c1 c2 c3 c4 c5 c6 c7 c8 c9 c10 c11 c12 c13 c14 c15 c16 c17 c18 c19 : Int) : valL [c0, c1, c2, c3, c4, c5, c6, c7, c8, c9, c10, c11, c12, c13, c14, c15, c16, c17, c18, c19] = V10 (c0 + 608 * c10) (c1 + 608 * c11) (c2 + 608 * c12) (c3 + 608 * c13) (c4 + 608 * c14) (c5 + 608 * c15) (c6 + 608 * c16) (c7 + 608 * c17) (c8 + 608 * c18) (c9 + 608 * c19) + pInt * (32 * V10 c10 c11 c12 c13 c14 c15 c16 c17 c18 c19) := by
  simp only [valL]
  unfold V10 pInt
  omega
end Go.Proofs.Ytncplefjokbbjaa
