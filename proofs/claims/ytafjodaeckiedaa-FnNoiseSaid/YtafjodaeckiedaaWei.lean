/- How often a number comes, and what is shifted: both sides. -/
import Derived.Test.YtafjodaeckiedaaGen
import Derived.OwnWalk
namespace Go.Proofs.Ytafjodaeckiedaa
open Go.RowKit
set_option maxHeartbeats 4000000
set_option maxRecDepth 20000
def rOK (a b : Int) : Bool := decide (1 ≤ a ∧ a < b ∧ b ≤ 16)
def mOK (m : Int) : Bool := decide (0 ≤ m ∧ m ≤ 8)
def nOK (n m : Int) : Bool := decide (0 ≤ n ∧ n ≤ 2 * m)
theorem mean30 (m : Int) (w : World) : Calls Try.prog 30 #[.int .i64 m] w fun e w' => e = .returned (.bool (mOK m)) ∧ w' = w := by
  unfold mOK
  go_enter Try.func30, Try.ntmps30
  go_wp2
  all_goals
    go_ret
    exact ⟨ret_bool (by rw [Bool.eq_iff_iff]; simp; try omega), rfl⟩
theorem ratio31 (a b : Int) (w : World) : Calls Try.prog 31 #[.int .i64 a, .int .i64 b] w fun e w' => e = .returned (.bool (rOK a b)) ∧ w' = w := by
  unfold rOK
  go_enter Try.func31, Try.ntmps31
  go_wp2
  all_goals
    go_ret
    exact ⟨ret_bool (by rw [Bool.eq_iff_iff]; simp; try omega), rfl⟩
theorem noise35 (n m : Int) (h0 : 0 ≤ m) (h1 : m ≤ 8) (w : World) : Calls Try.prog 35 #[.int .i64 n, .int .i64 m] w fun e w' => e = .returned (.bool (nOK n m)) ∧ w' = w := by
  unfold nOK
  go_enter Try.func35, Try.ntmps35
  go_wp2
  all_goals
    go_ret
    exact ⟨ret_bool (by rw [Bool.eq_iff_iff]; simp; try omega), rfl⟩
theorem ratio50 (a b : Int) (w : World) : Calls Try.prog 50 #[.int .i64 a, .int .i64 b] w fun e w' => e = .returned (.bool (rOK a b)) ∧ w' = w := by
  have K1 := hide (fun W => in19 a 1 15 W)
  have K2 := hide (fun W => in19 b (a + 1) 16 W)
  by_cases h : 1 ≤ a ∧ a ≤ 15
  · obtain ⟨h0, h1⟩ := h
    rw [decide_eq_true h0, decide_eq_true h1] at K1
    have HE : Hid ((decide (a + 1 ≤ b) && decide (b ≤ 16)) = rOK a b) := hide (by unfold rOK; rw [Bool.eq_iff_iff]; simp; omega)
    go_enter Try.func50, Try.ntmps50
    go_wp2_with fail
    refine (unhide K1 _).mono ?_
    rintro e w' ⟨rfl, rfl⟩
    clear K1
    go_wp2_with fail
    refine (unhide K2 _).mono ?_
    rintro e w' ⟨rfl, rfl⟩
    clear K2
    go_wp2
    go_ret
    exact ⟨ret_bool (unhide HE), rfl⟩
  · rw [show (decide (1 ≤ a) && decide (a ≤ 15)) = false by simp; omega] at K1
    have HE : Hid (rOK a b = false) := hide (by unfold rOK; rw [decide_eq_false]; omega)
    clear h K2
    go_enter Try.func50, Try.ntmps50
    go_wp2_with fail
    refine (unhide K1 _).mono ?_
    rintro e w' ⟨rfl, rfl⟩
    clear K1
    go_wp2
    go_ret
    exact ⟨ret_bool (unhide HE).symm, rfl⟩
theorem range33 (m a b : Int) (w : World) : Calls Try.prog 33 #[.int .i64 m, .int .i64 a, .int .i64 b] w fun e w' => e = .returned (.bool (rOK a b && mOK m)) ∧ w' = w := by
  have K1 := hide (fun W => ratio50 a b W)
  have K2 := hide (fun W => in19 m 0 8 W)
  rw [show (decide (0 ≤ m) && decide (m ≤ 8)) = mOK m by unfold mOK; rw [Bool.eq_iff_iff]; simp] at K2
  generalize rOK a b = r at *
  generalize mOK m = q at *
  cases r
  · go_enter Try.func33, Try.ntmps33
    go_wp2_with fail
    refine (unhide K1 _).mono ?_
    rintro e w' ⟨rfl, rfl⟩
    clear K1
    go_wp2
    go_ret
    exact ⟨rfl, rfl⟩
  · go_enter Try.func33, Try.ntmps33
    go_wp2_with fail
    refine (unhide K1 _).mono ?_
    rintro e w' ⟨rfl, rfl⟩
    clear K1
    go_wp2_with fail
    refine (unhide K2 _).mono ?_
    rintro e w' ⟨rfl, rfl⟩
    clear K2
    go_wp2
    go_ret
    exact ⟨ret_bool (by simp), rfl⟩
theorem pw_bd (a : Int) (h0 : 1 ≤ a) (h1 : a ≤ 16) : ∀ n : Nat, 1 ≤ a ^ n ∧ a ^ n ≤ 16 ^ n
  | 0 => by simp
  | n + 1 => by
    have ⟨i1, i2⟩ := pw_bd a h0 h1 n
    rw [Int.pow_succ, Int.pow_succ]
    exact ⟨by have := Int.mul_le_mul i1 h0 (by omega) (by omega); omega, Int.mul_le_mul i2 h1 (by omega) (by omega)⟩
theorem pw16 (n : Nat) (h : n ≤ 8) : (16 : Int) ^ n ≤ 4294967296 := by
  have : ∀ n : Fin 9, (16 : Int) ^ (n : Nat) ≤ 4294967296 := by decide
  exact this ⟨n, by omega⟩
theorem pw_small (a : Int) (h0 : 1 ≤ a) (h1 : a ≤ 16) (n : Nat) (h : n ≤ 8) : 1 ≤ a ^ n ∧ a ^ n ≤ 4294967296 :=
  ⟨(pw_bd a h0 h1 n).1, Int.le_trans (pw_bd a h0 h1 n).2 (pw16 n h)⟩
theorem wrap_ok (x : Int) (h : -9223372036854775808 ≤ x) (h' : x ≤ 9223372036854775807) : IntKind.i64.wrap x = x := by rw [IntKind.wrap_i64]; omega
theorem power49 (a : Int) (n : Nat) (h0 : 1 ≤ a) (h1 : a ≤ 16) (hn : n ≤ 8) (w : World) : Calls Try.prog 49 #[.int .i64 a, .int .i64 (n : Int)] w fun e w' => e = .returned (.int .i64 (a ^ n)) ∧ w' = w := by
  have HP : Hid (∀ j, j ≤ 8 → 1 ≤ a ^ j ∧ a ^ j ≤ 4294967296) := hide fun j hj => pw_small a h0 h1 j hj
  have HN := hide hn
  clear hn
  go_enter Try.func49, Try.ntmps49
  go_wp2
  go_loopw [7, 5] (fun i o wr => ∃ j : Nat, j ≤ n ∧ i = .int .i64 j ∧ o = .int .i64 (a ^ j) ∧ wr = w) (fun i _ _ => n - (intOf i).toNat)
  case atStart => exact ⟨0, by omega, rfl, by rw [Int.pow_zero], rfl⟩
  case round =>
    obtain ⟨j, hj, rfl, rfl, rfl⟩ := hrel
    by_cases hlt : j < n
    · have q1 : (j : Int) < (n : Int) := by omega
      have HJ := hide hlt
      have hb := unhide HP (j + 1) (by have := unhide HN; omega)
      rw [Int.pow_succ] at hb
      have HS := hide (Int.pow_succ a j)
      generalize a ^ j = x at *
      have hw := wrap_ok (x * a) (by omega) (by omega)
      have hj8 : (j : Int) ≤ 8 := by have := unhide HN; omega
      clear hb hlt hj
      go_wp2
      go_roundw
      case rel => exact ⟨j + 1, unhide HJ, by go_num, by rw [unhide HS], by first | rfl | trivial⟩
      case measure => have := unhide HJ; simp [intOf]; omega
    · obtain rfl : j = n := by omega
      obtain ⟨x, hx⟩ : ∃ x, x = a ^ j := ⟨_, rfl⟩
      have HX := hide hx
      rw [← hx]
      clear hlt hj hx
      go_wp2
      go_ret
      exact ⟨by rw [← unhide HX]; rfl, rfl⟩
theorem power34 (a : Int) (n : Nat) (h0 : 1 ≤ a) (h1 : a ≤ 16) (hn : n ≤ 8) (w : World) : Calls Try.prog 34 #[.int .i64 a, .int .i64 (n : Int)] w fun e w' => e = .returned (.int .i64 (a ^ n)) ∧ w' = w := by
  have HP : Hid (∀ j, j ≤ 8 → 1 ≤ a ^ j ∧ a ^ j ≤ 4294967296) := hide fun j hj => pw_small a h0 h1 j hj
  have HN := hide hn
  clear hn
  go_enter Try.func34, Try.ntmps34
  go_wp2
  go_loopw [6, 5] (fun i o wr => ∃ j : Nat, j ≤ n ∧ i = .int .i64 j ∧ o = .int .i64 (a ^ j) ∧ wr = w) (fun i _ _ => n - (intOf i).toNat)
  case atStart => exact ⟨0, by omega, rfl, by rw [Int.pow_zero], rfl⟩
  case round =>
    obtain ⟨j, hj, rfl, rfl, rfl⟩ := hrel
    by_cases hlt : j < n
    · have q1 : (j : Int) < (n : Int) := by omega
      have HJ := hide hlt
      have hb := unhide HP (j + 1) (by have := unhide HN; omega)
      rw [Int.pow_succ] at hb
      have HS := hide (Int.pow_succ a j)
      generalize a ^ j = x at *
      have hw := wrap_ok (x * a) (by omega) (by omega)
      have hj8 : (j : Int) ≤ 8 := by have := unhide HN; omega
      clear hb hlt hj
      go_wp2
      go_roundw
      case rel => exact ⟨j + 1, unhide HJ, by go_num, by rw [unhide HS], by first | rfl | trivial⟩
      case measure => have := unhide HJ; simp [intOf]; omega
    · obtain rfl : j = n := by omega
      obtain ⟨x, hx⟩ : ∃ x, x = a ^ j := ⟨_, rfl⟩
      have HX := hide hx
      rw [← hx]
      clear hlt hj hx
      go_wp2
      go_ret
      exact ⟨by rw [← unhide HX]; rfl, rfl⟩
end Go.Proofs.Ytafjodaeckiedaa
