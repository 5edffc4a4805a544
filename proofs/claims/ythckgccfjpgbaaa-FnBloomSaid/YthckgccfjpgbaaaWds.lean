/- Words of bits: one set, one asked for, two joined; what words of a list hold. -/
import Derived.Test.YthckgccfjpgbaaaBlm
import Derived.Laws.BitsAllLaws
namespace Go.Proofs.Ythckgccfjpgbaaa
open Go.RowKit
set_option maxHeartbeats 4000000
set_option maxRecDepth 20000
theorem pow_lt {b : Nat} (hb : b < 64) : 2 ^ b < 18446744073709551616 := Nat.pow_lt_pow_right (by omega) hb
theorem or_lt {n m : Nat} (hn : n < 18446744073709551616) (hm : m < 18446744073709551616) : n ||| m < 18446744073709551616 := Nat.or_lt_two_pow (n := 64) hn hm
theorem orB {n b : Nat} (hn : n < 18446744073709551616) (hb : b < 64) : bits .or .u64 (n : Int) (IntKind.u64.wrap (2 ^ b)) = ((n ||| 2 ^ b : Nat) : Int) := by
  have h := pow_lt hb
  have e : IntKind.u64.wrap (2 ^ b : Int) = ((2 ^ b : Nat) : Int) := by
    rw [IntKind.wrap_u64]
    have h2 : ((2 : Int) ^ b) = ((2 ^ b : Nat) : Int) := by simp
    rw [h2]
    generalize 2 ^ b = z at *
    omega
  rw [e, u64_or_nat n (2 ^ b) hn h]
theorem andB {n b : Nat} (hn : n < 18446744073709551616) : (bits .and .u64 ((n : Int) / 2 ^ b) 1 == 1) = n.testBit b := by
  have e : ((n : Int) / 2 ^ b) = ((n / 2 ^ b : Nat) : Int) := by simp
  have hl : n / 2 ^ b < 18446744073709551616 := Nat.lt_of_le_of_lt (Nat.div_le_self _ _) hn
  have h1 := u64_and_nat (n / 2 ^ b) 1 hl (by omega)
  rw [e, show ((1 : Int)) = ((1 : Nat) : Int) from rfl, h1]
  rw [Nat.testBit, Nat.shiftRight_eq_div_pow, Nat.and_one_is_mod, Nat.one_and_eq_mod_two]
  have : n / 2 ^ b % 2 < 2 := Nat.mod_lt _ (by omega)
  generalize n / 2 ^ b % 2 = z at *
  have : z = 0 ∨ z = 1 := by omega
  rcases this with rfl | rfl <;> rfl
theorem set51 (g i n b : Nat) (w : World) (hb : b < 64) (hn : n < 18446744073709551616) (c0 : w.cell? ⟨g, i, none⟩ = some (.int .u64 (n : Int))) (f0 : w.frozen? ⟨g, i, none⟩ = false) :
    Calls Try.prog 51 #[.pointer (some ⟨g, i, none⟩), .int .i64 (b : Int)] w fun e w' => e = .returned (.tuple #[]) ∧ w' = (w.setCell ⟨g, i, none⟩ (.int .u64 ((n ||| 2 ^ b : Nat) : Int))).drew := by
  have q0 : (0 : Int) ≤ (b : Int) := by omega
  have q1 : (b : Int) ≤ 63 := by omega
  have HE := hide (orB hn hb)
  go_enter Try.func51, Try.ntmps51
  go_wp2
  go_region
  rw [unhide HE]
  exact bodyPost_end (results_none rfl _ _ _) rfl ⟨rfl, rfl⟩
theorem join57 (g i n m : Nat) (w : World) (hn : n < 18446744073709551616) (hm : m < 18446744073709551616) (c0 : w.cell? ⟨g, i, none⟩ = some (.int .u64 (n : Int))) (f0 : w.frozen? ⟨g, i, none⟩ = false) :
    Calls Try.prog 57 #[.pointer (some ⟨g, i, none⟩), .int .u64 (m : Int)] w fun e w' => e = .returned (.tuple #[]) ∧ w' = w.setCell ⟨g, i, none⟩ (.int .u64 ((n ||| m : Nat) : Int)) := by
  have HE := hide (u64_or_nat n m hn hm)
  go_enter Try.func57, Try.ntmps57
  go_wp2
  rw [unhide HE]
  exact bodyPost_end (results_none rfl _ _ _) rfl ⟨rfl, rfl⟩
theorem has58 (g i n b : Nat) (w : World) (hb : b < 64) (hn : n < 18446744073709551616) (c0 : w.cell? ⟨g, i, none⟩ = some (.int .u64 (n : Int))) :
    Calls Try.prog 58 #[.pointer (some ⟨g, i, none⟩), .int .i64 (b : Int)] w fun e w' => e = .returned (.bool (n.testBit b)) ∧ w' = w := by
  have q0 : (0 : Int) ≤ (b : Int) := by omega
  have q1 : (b : Int) ≤ 63 := by omega
  have HE := hide (andB (b := b) hn)
  go_enter Try.func58, Try.ntmps58
  go_wp2
  go_ret
  exact ⟨ret_bool (unhide HE), rfl⟩
end Go.Proofs.Ythckgccfjpgbaaa
