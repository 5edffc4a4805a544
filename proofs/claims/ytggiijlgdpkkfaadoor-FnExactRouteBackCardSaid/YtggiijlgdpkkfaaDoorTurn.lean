/- The program's quarter round on words, and that it is the one on a list. -/
import Derived.Test.YtggiijlgdpkkfaaDoorWords
namespace Go.Proofs.YtggiijlgdpkkfaaDoor
open Go.RowKit
set_option maxHeartbeats 4000000
set_option maxRecDepth 20000
theorem rotl37 (x : W32) (n : Nat) (hn : n = 16 ∨ n = 12 ∨ n = 8 ∨ n = 7) (w : World) : Calls Tryd.prog 44 #[.int .u32 (wi x), .int .i64 n] w fun e w' => e = .returned (.int .u32 (wi (rotl x n))) ∧ w' = w := by
  rcases hn with rfl | rfl | rfl | rfl
  all_goals
    have b1 : bits .and .u64 16 31 = 16 := by rfl
    have b2 : bits .and .u64 12 31 = 12 := by rfl
    have b3 : bits .and .u64 8 31 = 8 := by rfl
    have b4 : bits .and .u64 7 31 = 7 := by rfl
    go_enter Tryd.func44, Tryd.ntmps44
    go_wp2
    go_ret
    exact ⟨ret_w (rot_lit x _ _ _ (by decide) (by decide)), rfl⟩
def t1 (a b : W32) : W32 := a + b
def t2 (a b d : W32) : W32 := rotl (d ^^^ t1 a b) 16
def t3 (a b c d : W32) : W32 := c + t2 a b d
def t4 (a b c d : W32) : W32 := rotl (b ^^^ t3 a b c d) 12
def tA (a b c d : W32) : W32 := t1 a b + t4 a b c d
def tD (a b c d : W32) : W32 := rotl (t2 a b d ^^^ tA a b c d) 8
def tC (a b c d : W32) : W32 := t3 a b c d + tD a b c d
def tB (a b c d : W32) : W32 := rotl (t4 a b c d ^^^ tC a b c d) 7
attribute [local go_sem] w_add' w_xor w_or w_and
theorem turned_any (a b c d : W32) (w : World) : Calls Tryd.prog 41 #[wV a, wV b, wV c, wV d] w fun e w' => e = .returned (.tuple #[wV (tA a b c d), wV (tB a b c d), wV (tC a b c d), wV (tD a b c d)]) ∧ w' = w := by
  go_enter Tryd.func41, Tryd.ntmps41
  go_wp2_with (go_at_call 44; refine (rotl37 _ _ (by decide) _).mono ?_; rintro e w1 ⟨rfl, rfl⟩)
  go_returns
  exact ⟨rfl, rfl⟩
theorem gW_same (s : List W32) (i : Nat) (x : W32) (h : i < s.length) : gW (s.set i x) i = x := by
  unfold gW; rw [List.getD_eq_getElem?_getD, List.getElem?_set_self h]; rfl
theorem gW_ne (s : List W32) (i j : Nat) (x : W32) (h : i ≠ j) : gW (s.set i x) j = gW s j := by
  unfold gW; rw [List.getD_eq_getElem?_getD, List.getElem?_set_ne h, List.getD_eq_getElem?_getD]
/-- a quarter round on a list is the four stores of the four turned words -/
theorem qL_sets (s : List W32) (i j k l : Nat) (hi : i < s.length) (hj : j < s.length) (hk : k < s.length) (hl : l < s.length)
    (h1 : i ≠ j) (h2 : i ≠ k) (h3 : i ≠ l) (h4 : j ≠ k) (h5 : j ≠ l) (h6 : k ≠ l) :
    qL s i j k l = (((s.set i (tA (gW s i) (gW s j) (gW s k) (gW s l))).set j (tB (gW s i) (gW s j) (gW s k) (gW s l))).set k (tC (gW s i) (gW s j) (gW s k) (gW s l))).set l (tD (gW s i) (gW s j) (gW s k) (gW s l)) := by
  simp only [qL, sA, sR, gW_same, gW_ne, List.length_set, hi, hj, hk, hl, h1, h2, h3, h4, h5, h6, h1.symm, h2.symm, h3.symm, h4.symm, h5.symm, h6.symm, ne_eq, not_false_eq_true]
  simp only [tA, tB, tC, tD, t1, t2, t3, t4]
  apply List.ext_getElem?
  intro m
  by_cases m1 : i = m
  · subst m1; simp [List.getElem?_set, h1.symm, h2.symm, h3.symm]
  · by_cases m2 : j = m
    · subst m2; simp [List.getElem?_set, h4.symm, h5.symm]
    · by_cases m3 : k = m
      · subst m3; simp [List.getElem?_set, h4, h6.symm]
      · by_cases m4 : l = m
        · subst m4; simp [List.getElem?_set, h5, h6]
        · simp [m1, m2, m3, m4]
end Go.Proofs.YtggiijlgdpkkfaaDoor
