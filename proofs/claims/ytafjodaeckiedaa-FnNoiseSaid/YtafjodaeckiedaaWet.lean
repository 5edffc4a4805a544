/- How often a number comes, and what is shifted: both sides of the exported functions, and their laws, walked. -/
import Derived.Test.YtafjodaeckiedaaWei
namespace Go.Proofs.Ytafjodaeckiedaa
open Go.RowKit
set_option maxHeartbeats 4000000
set_option maxRecDepth 20000
def tF (m a b : Int) : Int := (a + b) * b ^ m.toNat
theorem tF_bd (m a b : Int) (ha : 1 ≤ a) (hab : a < b) (hb : b ≤ 16) (h0 : 0 ≤ m) (h8 : m ≤ 8) : 1 ≤ tF m a b ∧ tF m a b ≤ 137438953472 := by
  have h := pw_small b (by omega) hb m.toNat (by omega)
  unfold tF
  constructor
  · have := Int.mul_le_mul (show 1 ≤ a + b by omega) h.1 (by omega) (by omega); omega
  · have := Int.mul_le_mul (show a + b ≤ 32 by omega) h.2 (by omega) (by omega); omega
theorem total32 (m a b : Int) (ha : 1 ≤ a) (hab : a < b) (hb : b ≤ 16) (h0 : 0 ≤ m) (h8 : m ≤ 8) (w : World) : Calls Try.prog 32 #[.int .i64 m, .int .i64 a, .int .i64 b] w fun e w' => e = .returned (.int .i64 (tF m a b)) ∧ w' = w := by
  have ht := tF_bd m a b ha hab hb h0 h8
  obtain ⟨k, rfl⟩ : ∃ k : Nat, m = k := ⟨m.toNat, by omega⟩
  have K := hide (fun W => power49 b k (by omega) hb (by omega) W)
  obtain ⟨x, hx⟩ : ∃ x, x = b ^ k := ⟨_, rfl⟩
  have HE : Hid (tF k a b = (a + b) * x) := hide (by unfold tF; rw [hx, Int.toNat_natCast])
  rw [unhide HE] at ht
  have hw := wrap_ok ((a + b) * x) (by omega) (by omega)
  rw [← hx] at K
  clear hx ht
  go_enter Try.func32, Try.ntmps32
  go_wp2_with fail
  refine (unhide K _).mono ?_
  rintro e w' ⟨rfl, rfl⟩
  clear K
  go_wp2
  go_ret
  exact ⟨by rw [unhide HE]; rfl, rfl⟩
def wF (n m a b : Int) : Int :=
  if m = 0 then a + b else if max (n - m) (m - n) = m then b * a ^ m.toNat else (b - a) * a ^ (max (n - m) (m - n)).toNat * b ^ (m - max (n - m) (m - n)).toNat
theorem pr_bd (a b : Int) (ha : 1 ≤ a) (hab : a < b) (hb : b ≤ 16) (d k : Nat) (h : d + k ≤ 8) : 1 ≤ (b - a) * a ^ d ∧ (b - a) * a ^ d ≤ 68719476736 ∧ 1 ≤ (b - a) * a ^ d * b ^ k ∧ (b - a) * a ^ d * b ^ k ≤ 68719476736 := by
  have h1 := pw_bd a ha (by omega) d
  have h2 := pw_bd b (by omega) hb k
  have h3 := pw_small a ha (by omega) d (by omega)
  have h4 := pw16 (d + k) h
  have h5 : a ^ d * b ^ k ≤ 16 ^ (d + k) := by rw [Int.pow_add]; exact Int.mul_le_mul h1.2 h2.2 (by omega) (Int.le_trans (by decide) (Int.le_trans h1.1 h1.2))
  have h6 : 1 ≤ a ^ d * b ^ k := by have := Int.mul_le_mul h1.1 h2.1 (by omega) (by omega); omega
  refine ⟨?_, ?_, ?_, ?_⟩
  · have := Int.mul_le_mul (show 1 ≤ b - a by omega) h3.1 (by omega) (by omega); omega
  · have := Int.mul_le_mul (show b - a ≤ 16 by omega) h3.2 (by omega) (by omega); omega
  · rw [Int.mul_assoc]; have := Int.mul_le_mul (show 1 ≤ b - a by omega) h6 (by omega) (by omega); omega
  · rw [Int.mul_assoc]; have := Int.mul_le_mul (show b - a ≤ 16 by omega) (Int.le_trans h5 h4) (by omega) (by omega); omega
theorem weight48 (n m a b : Int) (ha : 1 ≤ a) (hab : a < b) (hb : b ≤ 16) (h0 : 0 ≤ m) (h8 : m ≤ 8) (hn : 0 ≤ n) (hn2 : n ≤ 2 * m) (w : World) : Calls Try.prog 48 #[.int .i64 n, .int .i64 m, .int .i64 a, .int .i64 b] w fun e w' => e = .returned (.int .i64 (wF n m a b)) ∧ w' = w := by
  by_cases hm : m = 0
  · have HE : Hid (wF n m a b = a + b) := hide (by unfold wF; rw [if_pos hm])
    subst hm
    obtain rfl : n = 0 := by omega
    go_enter Try.func48, Try.ntmps48
    go_wp2
    go_ret
    exact ⟨by rw [unhide HE]; rfl, rfl⟩
  obtain ⟨d, hd⟩ : ∃ d : Nat, max (n - m) (m - n) = d := ⟨(max (n - m) (m - n)).toNat, by omega⟩
  obtain ⟨k, hk⟩ : ∃ k : Nat, m - (d : Int) = k := ⟨(m - (d : Int)).toNat, by omega⟩
  obtain ⟨M, rfl⟩ : ∃ M : Nat, m = M := ⟨m.toNat, by omega⟩
  have HD : Hid (wF n M a b = if (d : Int) = M then b * a ^ M else (b - a) * a ^ d * b ^ k) := hide (by
    unfold wF; rw [if_neg hm, hd, hk, Int.toNat_natCast, Int.toNat_natCast, Int.toNat_natCast])
  have h9 : (M : Int) ≠ 0 := hm
  have h10 : (0 : Int) < (M : Int) := by omega
  clear hm
  have main : (n - (M : Int) = (d : Int) ∧ (M : Int) - n = -(d : Int) ∨ n - (M : Int) = -(d : Int) ∧ (M : Int) - n = (d : Int) ∧ -(d : Int) < (d : Int)) := by omega
  clear hd
  by_cases hdm : (d : Int) = M
  · obtain rfl : d = M := by omega
    have HE : Hid (wF n d a b = b * a ^ d) := hide (by rw [unhide HD, if_pos rfl])
    have K := hide (fun W => power34 a d ha (by omega) (by omega) W)
    have hs := pw_small a ha (by omega) d (by omega)
    obtain ⟨x, hx⟩ : ∃ x, x = a ^ d := ⟨_, rfl⟩
    rw [← hx] at K HE hs
    have hmul : 0 ≤ b * x ∧ b * x ≤ 68719476736 := by
      constructor
      · exact Int.mul_nonneg (by omega) (by omega)
      · have := Int.mul_le_mul hb hs.2 (by omega) (by omega); omega
    have hw := wrap_ok (b * x) (by omega) (by omega)
    have d0 : (0 : Int) ≤ (d : Int) := by omega
    clear hx hs hmul HD hdm hk
    rcases main with ⟨e1, e2⟩ | ⟨e1, e2, e3⟩
    all_goals
      go_enter Try.func48, Try.ntmps48
      go_wp2_with fail
      refine (unhide K _).mono ?_
      rintro e w' ⟨rfl, rfl⟩
      clear K
      go_wp2
      go_ret
      exact ⟨by rw [unhide HE]; rfl, rfl⟩
  · have HE : Hid (wF n M a b = (b - a) * a ^ d * b ^ k) := hide (by rw [unhide HD, if_neg hdm])
    have hlt : (d : Int) < (M : Int) := by omega
    have K1 := hide (fun W => power34 a d ha (by omega) (by omega) W)
    have K2 := hide (fun W => power34 b k (by omega) hb (by omega) W)
    obtain ⟨s1, s2, s3, s4⟩ := pr_bd a b ha hab hb d k (by omega)
    obtain ⟨x, hx⟩ : ∃ x, x = a ^ d := ⟨_, rfl⟩
    obtain ⟨y, hy⟩ : ∃ y, y = b ^ k := ⟨_, rfl⟩
    rw [← hx] at K1 HE s1 s2 s3 s4
    rw [← hy] at K2 HE s3 s4
    have hw := wrap_ok ((b - a) * x) (by omega) (by omega)
    have hw' := wrap_ok ((b - a) * x * y) (by omega) (by omega)
    have d0 : (0 : Int) ≤ (d : Int) := by omega
    clear hx hy s1 s2 s3 s4 HD
    rcases main with ⟨e1, e2⟩ | ⟨e1, e2, e3⟩
    all_goals
      go_enter Try.func48, Try.ntmps48
      go_wp2_with fail
      refine (unhide K1 _).mono ?_
      rintro e w' ⟨rfl, rfl⟩
      clear K1
      go_wp2_with fail
      refine (unhide K2 _).mono ?_
      rintro e w' ⟨rfl, rfl⟩
      clear K2
      go_wp2
      go_ret
      exact ⟨by rw [unhide HE]; rfl, rfl⟩
theorem weight36 (n m a b : Int) (ha : 1 ≤ a) (hab : a < b) (hb : b ≤ 16) (h0 : 0 ≤ m) (h8 : m ≤ 8) (hn : 0 ≤ n) (hn2 : n ≤ 2 * m) (w : World) : Calls Try.prog 36 #[.int .i64 n, .int .i64 m, .int .i64 a, .int .i64 b] w fun e w' => e = .returned (.int .i64 (wF n m a b)) ∧ w' = w := by
  by_cases hm : m = 0
  · have HE : Hid (wF n m a b = a + b) := hide (by unfold wF; rw [if_pos hm])
    subst hm
    obtain rfl : n = 0 := by omega
    have K := hide (fun W => total32 0 a b ha hab hb (by omega) (by omega) W)
    rw [show tF 0 a b = a + b by unfold tF; simp] at K
    go_enter Try.func36, Try.ntmps36
    go_wp2_with fail
    refine (unhide K _).mono ?_
    rintro e w' ⟨rfl, rfl⟩
    clear K
    go_wp2
    go_ret
    exact ⟨by rw [unhide HE]; rfl, rfl⟩
  obtain ⟨d, hd⟩ : ∃ d : Nat, max (n - m) (m - n) = d := ⟨(max (n - m) (m - n)).toNat, by omega⟩
  obtain ⟨k, hk⟩ : ∃ k : Nat, m - (d : Int) = k := ⟨(m - (d : Int)).toNat, by omega⟩
  obtain ⟨M, rfl⟩ : ∃ M : Nat, m = M := ⟨m.toNat, by omega⟩
  have HD : Hid (wF n M a b = if (d : Int) = M then b * a ^ M else (b - a) * a ^ d * b ^ k) := hide (by
    unfold wF; rw [if_neg hm, hd, hk, Int.toNat_natCast, Int.toNat_natCast, Int.toNat_natCast])
  have h9 : (M : Int) ≠ 0 := hm
  have h10 : (0 : Int) < (M : Int) := by omega
  clear hm
  have main : (n - (M : Int) = (d : Int) ∧ (M : Int) - n = -(d : Int) ∨ n - (M : Int) = -(d : Int) ∧ (M : Int) - n = (d : Int) ∧ -(d : Int) < (d : Int)) := by omega
  clear hd
  by_cases hdm : (d : Int) = M
  · obtain rfl : d = M := by omega
    have HE : Hid (wF n d a b = b * a ^ d) := hide (by rw [unhide HD, if_pos rfl])
    have K := hide (fun W => power49 a d ha (by omega) (by omega) W)
    have hs := pw_small a ha (by omega) d (by omega)
    obtain ⟨x, hx⟩ : ∃ x, x = a ^ d := ⟨_, rfl⟩
    rw [← hx] at K HE hs
    have hmul : 0 ≤ b * x ∧ b * x ≤ 68719476736 := by
      constructor
      · exact Int.mul_nonneg (by omega) (by omega)
      · have := Int.mul_le_mul hb hs.2 (by omega) (by omega); omega
    have hw := wrap_ok (b * x) (by omega) (by omega)
    have d0 : (0 : Int) ≤ (d : Int) := by omega
    clear hx hs hmul HD hdm hk
    rcases main with ⟨e1, e2⟩ | ⟨e1, e2, e3⟩
    all_goals
      go_enter Try.func36, Try.ntmps36
      go_wp2_with fail
      refine (unhide K _).mono ?_
      rintro e w' ⟨rfl, rfl⟩
      clear K
      go_wp2
      go_ret
      exact ⟨by rw [unhide HE]; rfl, rfl⟩
  · have HE : Hid (wF n M a b = (b - a) * a ^ d * b ^ k) := hide (by rw [unhide HD, if_neg hdm])
    have hlt : (d : Int) < (M : Int) := by omega
    have K1 := hide (fun W => power49 a d ha (by omega) (by omega) W)
    have K2 := hide (fun W => power49 b k (by omega) hb (by omega) W)
    obtain ⟨s1, s2, s3, s4⟩ := pr_bd a b ha hab hb d k (by omega)
    obtain ⟨x, hx⟩ : ∃ x, x = a ^ d := ⟨_, rfl⟩
    obtain ⟨y, hy⟩ : ∃ y, y = b ^ k := ⟨_, rfl⟩
    rw [← hx] at K1 HE s1 s2 s3 s4
    rw [← hy] at K2 HE s3 s4
    have hw := wrap_ok ((b - a) * x) (by omega) (by omega)
    have hw' := wrap_ok ((b - a) * x * y) (by omega) (by omega)
    have d0 : (0 : Int) ≤ (d : Int) := by omega
    clear hx hy s1 s2 s3 s4 HD
    rcases main with ⟨e1, e2⟩ | ⟨e1, e2, e3⟩
    all_goals
      go_enter Try.func36, Try.ntmps36
      go_wp2_with fail
      refine (unhide K1 _).mono ?_
      rintro e w' ⟨rfl, rfl⟩
      clear K1
      go_wp2_with fail
      refine (unhide K2 _).mono ?_
      rintro e w' ⟨rfl, rfl⟩
      clear K2
      go_wp2
      go_ret
      exact ⟨by rw [unhide HE]; rfl, rfl⟩
end Go.Proofs.Ytafjodaeckiedaa
