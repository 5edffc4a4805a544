/- Primes, both sides; the law. -/
import Derived.Test.YthckgccfjpgbaaaInts
namespace Go.Proofs.Ythckgccfjpgbaaa
open Go.RowKit
set_option maxHeartbeats 4000000
set_option maxRecDepth 20000
def primeB (p : Int) : Bool := decide (2 ≤ p) && decide (p ≤ 509) && (List.range 23).all fun e => decide (e < 2) || decide (p < (e : Int) * (e : Int)) || decide (p % (e : Int) ≠ 0)
theorem primeB_low {p : Int} (h : p < 2) : primeB p = false := by
  unfold primeB; rw [decide_eq_false (by omega)]; rfl
theorem primeB_high {p : Int} (h : 509 < p) : primeB p = false := by
  unfold primeB; rw [decide_eq_false (show ¬ p ≤ 509 by omega), Bool.and_false]; rfl
theorem primeB_no {p : Int} {k : Nat} (h2 : 2 ≤ k) (hk : k < 23) (hs : (k : Int) * (k : Int) ≤ p) (h0 : p % (k : Int) = 0) : primeB p = false := by
  unfold primeB
  rw [show ((List.range 23).all fun e => decide (e < 2) || decide (p < (e : Int) * (e : Int)) || decide (p % (e : Int) ≠ 0)) = false from ?_, Bool.and_false]
  rw [List.all_eq_false]
  exact ⟨k, List.mem_range.2 hk, by rw [h0, decide_eq_false (show ¬ k < 2 by omega), decide_eq_false (show ¬ p < (k : Int) * (k : Int) by omega)]; decide⟩
theorem primeB_yes {p : Int} {k : Nat} (hp : 2 ≤ p) (hp' : p ≤ 509) (hs : p < (k : Int) * (k : Int)) (h : ∀ e : Nat, 2 ≤ e → e < k → p % (e : Int) ≠ 0) : primeB p = true := by
  unfold primeB
  rw [decide_eq_true hp, decide_eq_true hp', Bool.true_and, Bool.true_and, List.all_eq_true]
  intro e _
  by_cases h2 : e < 2
  · rw [decide_eq_true h2]; rfl
  · by_cases hk : e < k
    · rw [decide_eq_true (h e (by omega) hk), Bool.or_true]
    · have : k * k ≤ e * e := Nat.mul_le_mul (by omega) (by omega)
      have h3 : (k : Int) * (k : Int) ≤ (e : Int) * (e : Int) := by exact_mod_cast this
      rw [decide_eq_true (show p < (e : Int) * (e : Int) by omega), Bool.or_true, Bool.true_or]
theorem sq_lt {k : Nat} {p : Int} (hp' : p ≤ 509) (hs : (k : Int) * (k : Int) ≤ p) : k < 23 := by
  rcases Nat.lt_or_ge k 23 with h | h
  · exact h
  · have : 23 * 23 ≤ k * k := Nat.mul_le_mul h h
    have h3 : ((23 * 23 : Nat) : Int) ≤ (k : Int) * (k : Int) := by exact_mod_cast this
    omega
theorem sq_ge {k : Nat} (h : k ≤ 23) : (k : Int) * (k : Int) ≤ 529 := by
  have : k * k ≤ 23 * 23 := Nat.mul_le_mul h h
  have h3 : (k : Int) * (k : Int) ≤ ((23 * 23 : Nat) : Int) := by exact_mod_cast this
  omega
theorem prime26 (p : Int) (w : World) : Calls Try.prog 26 #[.int .i64 p] w fun e w' => e = .returned (.bool (primeB p)) ∧ w' = w := by
  by_cases h2 : p < 2
  · have HE := hide (primeB_low h2)
    go_enter Try.func26, Try.ntmps26
    go_wp2
    go_ret
    exact ⟨by rw [unhide HE]; rfl, rfl⟩
  by_cases h9 : 509 < p
  · have HE := hide (primeB_high h9)
    go_enter Try.func26, Try.ntmps26
    go_wp2
    go_ret
    exact ⟨by rw [unhide HE]; rfl, rfl⟩
  have p2 : 2 ≤ p := by omega
  have p9 : p ≤ 509 := by omega
  have HP2 := hide p2
  have HP9 := hide p9
  clear h2 h9
  go_enter Try.func26, Try.ntmps26
  go_wp2
  go_loopw [3] (fun i wr => ∃ k : Nat, 2 ≤ k ∧ k ≤ 23 ∧ i = .int .i64 k ∧ (∀ e : Nat, 2 ≤ e → e < k → p % (e : Int) ≠ 0) ∧ wr = w) (fun i _ => 23 - (intOf i).toNat)
  case atStart => exact ⟨2, by omega, by omega, rfl, fun e h1 h2 => by omega, rfl⟩
  case round =>
    obtain ⟨k, k2, k3, rfl, hd, rfl⟩ := hrel
    have sq := sq_ge k3
    have s0 : (0 : Int) ≤ (k : Int) * (k : Int) := Int.mul_nonneg (by omega) (by omega)
    have kne : ¬ (k : Int) = 0 := by omega
    have k0 : (2 : Int) ≤ (k : Int) := by omega
    have k1 : (k : Int) ≤ 23 := by omega
    have HD := hide hd
    have HK2 := hide k2
    have HY : Hid (p < (k : Int) * (k : Int) → primeB p = true) := hide fun h => primeB_yes (unhide HP2) (unhide HP9) h hd
    have HK : Hid ((k : Int) * (k : Int) ≤ p → k < 23) := hide fun h => sq_lt (unhide HP9) h
    have HN : Hid ((k : Int) * (k : Int) ≤ p → p % (k : Int) = 0 → primeB p = false) := hide fun h h0 => primeB_no k2 (sq_lt (unhide HP9) h) h h0
    have tm : Int.tmod p (k : Int) = p % (k : Int) := Int.tmod_eq_emod_of_nonneg (by have := unhide HP2; omega)
    have HM := hide (show p % (k : Int) = p % (k : Int) from rfl)
    clear hd k2 k3
    generalize hz : (k : Int) * (k : Int) = z at *
    generalize hm : p % (k : Int) = m at *
    have HZ := hide hz
    have HMM := hide hm
    clear hm
    by_cases hle : z ≤ p
    · have HLE := hide hle
      by_cases hm0 : m = 0
      · subst hm0
        have HE := hide (unhide HN hle rfl)
        go_wp2
        go_ret
        exact ⟨by rw [unhide HE]; rfl, rfl⟩
      · have HKK := hide (unhide HK hle)
        have HM0 := hide hm0
        go_wp2
        go_roundw
        case rel =>
          refine ⟨k + 1, by have := unhide HK2; omega, unhide HKK, by go_num, fun e h1 h2 => ?_, by first | rfl | trivial⟩
          by_cases he : e = k
          · subst he; rw [unhide HMM]; exact unhide HM0
          · exact unhide HD e h1 (by omega)
        case measure => have := unhide HKK; simp [intOf]; omega
    · have hlt : p < z := by omega
      have HE := hide (unhide HY hlt)
      clear hle
      go_wp2
      go_ret
      exact ⟨by rw [unhide HE]; rfl, rfl⟩
theorem prime65 (p : Int) (w : World) (p2 : 2 ≤ p) (p9 : p ≤ 509) : Calls Try.prog 65 #[.int .i64 p] w fun e w' => e = .returned (.bool (primeB p)) ∧ w' = w := by
  have HP2 := hide p2
  have HP9 := hide p9
  go_enter Try.func65, Try.ntmps65
  go_wp2
  go_loopw [3] (fun i wr => ∃ k : Nat, 2 ≤ k ∧ k ≤ 23 ∧ i = .int .i64 k ∧ (∀ e : Nat, 2 ≤ e → e < k → p % (e : Int) ≠ 0) ∧ wr = w) (fun i _ => 23 - (intOf i).toNat)
  case atStart => exact ⟨2, by omega, by omega, rfl, fun e h1 h2 => by omega, rfl⟩
  case round =>
    obtain ⟨k, k2, k3, rfl, hd, rfl⟩ := hrel
    have sq := sq_ge k3
    have s0 : (0 : Int) ≤ (k : Int) * (k : Int) := Int.mul_nonneg (by omega) (by omega)
    have kne : ¬ (k : Int) = 0 := by omega
    have k0 : (2 : Int) ≤ (k : Int) := by omega
    have k1 : (k : Int) ≤ 23 := by omega
    have HD := hide hd
    have HK2 := hide k2
    have HY : Hid (p < (k : Int) * (k : Int) → primeB p = true) := hide fun h => primeB_yes (unhide HP2) (unhide HP9) h hd
    have HK : Hid ((k : Int) * (k : Int) ≤ p → k < 23) := hide fun h => sq_lt (unhide HP9) h
    have HN : Hid ((k : Int) * (k : Int) ≤ p → p % (k : Int) = 0 → primeB p = false) := hide fun h h0 => primeB_no k2 (sq_lt (unhide HP9) h) h h0
    have tm : Int.tmod p (k : Int) = p % (k : Int) := Int.tmod_eq_emod_of_nonneg (by have := unhide HP2; omega)
    have HM := hide (show p % (k : Int) = p % (k : Int) from rfl)
    clear hd k2 k3
    generalize hz : (k : Int) * (k : Int) = z at *
    generalize hm : p % (k : Int) = m at *
    have HZ := hide hz
    have HMM := hide hm
    clear hm
    by_cases hle : z ≤ p
    · have HLE := hide hle
      by_cases hm0 : m = 0
      · subst hm0
        have HE := hide (unhide HN hle rfl)
        go_wp2
        go_ret
        exact ⟨by rw [unhide HE]; rfl, rfl⟩
      · have HKK := hide (unhide HK hle)
        have HM0 := hide hm0
        go_wp2
        go_roundw
        case rel =>
          refine ⟨k + 1, by have := unhide HK2; omega, unhide HKK, by go_num, fun e h1 h2 => ?_, by first | rfl | trivial⟩
          by_cases he : e = k
          · subst he; rw [unhide HMM]; exact unhide HM0
          · exact unhide HD e h1 (by omega)
        case measure => have := unhide HKK; simp [intOf]; omega
    · have hlt : p < z := by omega
      have HE := hide (unhide HY hlt)
      clear hle
      go_wp2
      go_ret
      exact ⟨by rw [unhide HE]; rfl, rfl⟩
theorem prime27 (p : Int) (w : World) : Calls Try.prog 27 #[.int .i64 p] w fun e w' => e = .returned (.bool (primeB p)) ∧ w' = w := by
  have K1 := hide (in19 p 2 509 w)
  by_cases hp : 2 ≤ p ∧ p ≤ 509
  · have K2 := hide (prime65 p w hp.1 hp.2)
    rw [decide_eq_true hp.1, decide_eq_true hp.2] at K1
    go_enter Try.func27, Try.ntmps27
    go_wp2_with fail
    refine (unhide K1).mono ?_
    rintro e w' ⟨rfl, rfl⟩
    go_wp2_with fail
    refine (unhide K2).mono ?_
    rintro e w' ⟨rfl, rfl⟩
    go_wp2
    go_ret
    exact ⟨rfl, rfl⟩
  · have HE : Hid (primeB p = false) := hide (by
      by_cases h2 : p < 2
      · exact primeB_low h2
      · exact primeB_high (by omega))
    rw [show (decide (2 ≤ p) && decide (p ≤ 509)) = false by rw [← Bool.not_eq_true]; simpa using hp] at K1
    go_enter Try.func27, Try.ntmps27
    go_wp2_with fail
    refine (unhide K1).mono ?_
    rintro e w' ⟨rfl, rfl⟩
    go_wp2
    go_ret
    exact ⟨by rw [unhide HE]; rfl, rfl⟩
theorem law_prime (w : World) (p : Int) : Calls Try.prog 5 #[.int .i64 p] w fun e w' => e = .returned (.bool true) ∧ Below w.heap.size w w' := by
  have K1 := hide (prime27 p w)
  have K2 := hide (prime26 p w)
  generalize primeB p = b at *
  go_enter Try.func5, Try.ntmps5
  go_wp2_with fail
  refine (unhide K1).mono ?_
  rintro e w' ⟨rfl, rfl⟩
  go_wp2_with fail
  refine (unhide K2).mono ?_
  rintro e w' ⟨rfl, rfl⟩
  cases b <;> (go_wp2; go_ret; exact ⟨rfl, Below.refl _ _⟩)
end Go.Proofs.Ythckgccfjpgbaaa
