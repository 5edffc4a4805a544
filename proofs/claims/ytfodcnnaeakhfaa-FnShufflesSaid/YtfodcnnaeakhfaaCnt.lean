/- How many numbers in a row are below a bound, and how many words that takes. -/
import Derived.Test.YtfodcnnaeakhfaaUni
namespace Go.Proofs.Ytfodcnnaeakhfaa
set_option maxHeartbeats 4000000
/-- how many numbers below b in a row are below a, and how many words that took -/
def gF (top a b : Int) : List Int → Int → Int → Int × Int × Bool
  | [], k, _ => (0, k, false)
  | x :: xs, k, n => if x < top then (if a ≤ x % b then (n, k + 1, true) else gF top a b xs (k + 1) (n + 1)) else gF top a b xs (k + 1) n
theorem gF_u {top a b : Int} : ∀ (xs : List Int) (j : Int), (∃ v m : Nat, v < 1 ∧ m = xs.length ∧ uF top b xs j = (0, j + m, false) ∧ ∀ k n, gF top a b xs k n = (0, k + m, false)) ∨
    (∃ (v : Int) (m : Nat), 1 ≤ m ∧ m ≤ xs.length ∧ (∃ x ∈ xs, v = x % b) ∧ uF top b xs j = (v, j + m, true) ∧ ∀ k n, gF top a b xs k n = if a ≤ v then (n, k + m, true) else gF top a b (xs.drop m) (k + m) (n + 1))
  | [], j => .inl ⟨0, 0, by omega, rfl, by simp [uF], fun k n => by simp [gF]⟩
  | x :: xs, j => by
    by_cases h : x < top
    · refine .inr ⟨x % b, 1, by omega, by simp, ⟨x, by simp, rfl⟩, by simp [uF, h], fun k n => ?_⟩
      rw [gF, if_pos h]; rfl
    · rcases gF_u xs (j + 1) with ⟨v, m, hv, hm, hu, hg⟩ | ⟨v, m, h1, h2, ⟨y, hy, hv⟩, hu, hg⟩
      · refine .inl ⟨0, m + 1, by omega, by simp [hm], ?_, fun k n => ?_⟩
        · rw [uF, if_neg h, hu]; simp; omega
        · rw [gF, if_neg h, hg]; simp; omega
      · refine .inr ⟨v, m + 1, by omega, by simpa using h2, ⟨y, by simp [hy], hv⟩, ?_, fun k n => ?_⟩
        · rw [uF, if_neg h, hu]; simp; omega
        · rw [gF, if_neg h, hg, List.drop_succ_cons, show k + 1 + (m : Int) = k + ((m + 1 : Nat) : Int) by omega]
/-- the count is at least what it began with, and what it took lies within the words -/
theorem gF_bd {top a b : Int} : ∀ (xs : List Int) (k n : Int), ∃ (g : Int) (m : Nat) (ok : Bool), gF top a b xs k n = (g, k + m, ok) ∧ m ≤ xs.length ∧ (ok = true → n ≤ g ∧ g ≤ n + m ∧ 1 ≤ m) ∧ (ok = false → g = 0)
  | [], k, n => ⟨0, 0, false, by simp [gF], by simp, by simp, fun _ => rfl⟩
  | x :: xs, k, n => by
    rw [gF]
    by_cases h : x < top
    · rw [if_pos h]
      by_cases h2 : a ≤ x % b
      · rw [if_pos h2]; exact ⟨n, 1, true, rfl, by simp, by intro; omega, by simp⟩
      · rw [if_neg h2]
        obtain ⟨g, m, ok, e, h3, h4, h5⟩ := gF_bd xs (k + 1) (n + 1)
        exact ⟨g, m + 1, ok, by rw [e]; simp; omega, by simpa using h3, fun o => by have := h4 o; omega, h5⟩
    · rw [if_neg h]
      obtain ⟨g, m, ok, e, h3, h4, h5⟩ := gF_bd xs (k + 1) n
      exact ⟨g, m + 1, ok, by rw [e]; simp; omega, by simpa using h3, fun o => by have := h4 o; omega, h5⟩
/-- so many counts, one behind the other, and where they end -/
def cF (top a b : Int) : Nat → List Int → Int → Option (List Int × Int)
  | 0, _, k => some ([], k)
  | m + 1, xs, k => if (gF top a b xs k 0).2.2 then (cF top a b m (xs.drop ((gF top a b xs k 0).2.1 - k).toNat) (gF top a b xs k 0).2.1).map (fun r => ((gF top a b xs k 0).1 :: r.1, r.2)) else none
theorem uF_bd (top b : Int) (xs : List Int) : ∃ (v : Int) (m : Nat) (ok : Bool), uF top b xs 0 = (v, (m : Int), ok) ∧ m ≤ xs.length := by
  rcases gF_u (a := 0) (top := top) (b := b) xs 0 with ⟨_, m, _, hm, hu, _⟩ | ⟨v, m, _, hm, _, hu, _⟩
  · exact ⟨0, m, false, by rw [hu]; simp, by omega⟩
  · exact ⟨v, m, true, by rw [hu]; simp, hm⟩
end Go.Proofs.Ytfodcnnaeakhfaa
