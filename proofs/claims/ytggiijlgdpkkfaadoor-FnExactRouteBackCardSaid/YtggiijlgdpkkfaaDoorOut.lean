/- The bytes of a block, and how they are laid one by one. -/
import Derived.Test.YtggiijlgdpkkfaaDoorChaBlock
namespace Go.Proofs.YtggiijlgdpkkfaaDoor
open Go.RowKit
theorem outN_at (F T : List W32) : ∀ n m e, m < n → e < 4 → (outN F T n).getD (4 * m + e) 0 = (leB (gW F m + gW T m)).getD e 0
  | 0, m, e, h, _ => by omega
  | n + 1, m, e, h, he => by
    have hl := outN_len F T n
    rw [outN_succ]
    by_cases hm : m < n
    · rw [← outN_at F T n m e hm he, List.getD_eq_getElem?_getD, List.getD_eq_getElem?_getD, List.getElem?_append_left (by omega)]
    · obtain rfl : m = n := by omega
      rw [List.getD_eq_getElem?_getD, List.getElem?_append_right (by omega), hl, List.getD_eq_getElem?_getD]
      congr 2
      omega
/-- the first j bytes of a block, and noughts behind them -/
def outZ (F T : List W32) (j : Nat) : List Int := (outN F T 16).take j ++ List.replicate (64 - j) 0
theorem outZ_len (F T : List W32) (j : Nat) (hj : j ≤ 64) : (outZ F T j).length = 64 := by
  have := outN_len F T 16
  simp [outZ]; omega
theorem outZ_succ (F T : List W32) (j : Nat) (hj : j < 64) : (outZ F T j).set j ((outN F T 16).getD j 0) = outZ F T (j + 1) := by
  have hl := outN_len F T 16
  apply List.ext_getElem?
  intro i
  unfold outZ
  rcases Nat.lt_trichotomy i j with h | h | h
  · rw [List.getElem?_set_ne (by omega), List.getElem?_append_left (by simp; omega), List.getElem?_append_left (by simp; omega), List.getElem?_take_of_lt h, List.getElem?_take_of_lt (by omega)]
  · subst h
    rw [List.getElem?_set_self (by simp; omega), List.getElem?_append_left (by simp; omega), List.getElem?_take_of_lt (by omega), List.getD_eq_getElem?_getD, List.getElem?_eq_getElem (by omega)]
    rfl
  · rw [List.getElem?_set_ne (by omega), List.getElem?_append_right (by simp; omega), List.getElem?_append_right (by simp; omega)]
    simp only [List.getElem?_replicate, List.length_take]
    by_cases h2 : i < 64
    · rw [if_pos (by omega), if_pos (by omega)]
    · rw [if_neg (by omega), if_neg (by omega)]
theorem outZ_all (F T : List W32) : outZ F T 64 = outN F T 16 := by
  have hl := outN_len F T 16
  simp [outZ, List.take_of_length_le (by omega : (outN F T 16).length ≤ 64)]
theorem outN_bd (F T : List W32) : ∀ n x, x ∈ outN F T n → 0 ≤ x ∧ x < 256
  | 0, x, h => by simp [outN] at h
  | n + 1, x, h => by
    rw [outN_succ, List.mem_append] at h
    rcases h with h | h
    · exact outN_bd F T n x h
    · obtain ⟨z0, z9⟩ := wi_bd (gW F n + gW T n)
      generalize gW F n + gW T n = y at *
      simp only [leB, List.mem_cons, List.not_mem_nil, or_false] at h
      generalize wi y = z at *
      rcases h with rfl | rfl | rfl | rfl <;> constructor <;> omega
end Go.Proofs.YtggiijlgdpkkfaaDoor
