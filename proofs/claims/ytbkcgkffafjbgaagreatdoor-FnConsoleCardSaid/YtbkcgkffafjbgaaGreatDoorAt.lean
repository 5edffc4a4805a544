/- The contract of 'at': the i-th choice out of N that some bytes make. -/
import Derived.Test.YtbkcgkffafjbgaaGreatDoorGp
namespace Go.Proofs.YtbkcgkffafjbgaaGreatDoor
open Go.RowKit
set_option maxHeartbeats 4000000
set_option maxRecDepth 20000
theorem at_any (w : World) (B : Option Addr) (m cbp i N : Nat) (hm : m ≤ 1048576) (hi : i ≤ 1000) (hN : 1 < N) (hN2 : N ≤ 65536) (hB : codeAt w B m) :
    Calls Tryz.prog 6 #[.slice B m cbp, .int .i64 i, .int .i64 N] w fun e w' => ∃ v : Nat, e = .returned (.int .i64 v) ∧ v < N ∧ Below w.heap.size w w' := by
  have q0 : (1 : Int) < (N : Int) := by omega
  have q1 : (N : Int) ≤ 65536 := by omega
  have q2 : (0 : Int) ≤ (i : Int) := by omega
  have q3 : (i : Int) ≤ 1000 := by omega
  have q4 : (m : Int) ≤ 1048576 := by omega
  by_cases h0 : m = 0
  · subst h0
    go_enter Tryz.func6, Tryz.ntmps6
    go_wp2
    go_ret
    exact ⟨i * 7 % N, by go_num, Nat.mod_lt _ (by omega), Below.refl _ _⟩
  · obtain ⟨b, off, rfl, hc⟩ := hB (by omega)
    obtain ⟨c1, c10, c11, hc1⟩ := hc (i % m) (Nat.mod_lt _ (by omega))
    obtain ⟨c2, c20, c21, hc2⟩ := hc ((i + 1) % m) (Nat.mod_lt _ (by omega))
    have t0 : ((m : Int) == 0) = false := by simp; omega
    have r1 := Nat.mod_lt i (show 0 < m by omega)
    have r2 := Nat.mod_lt (i + 1) (show 0 < m by omega)
    have e1 : (i : Int).tmod (m : Int) = ((i % m : Nat) : Int) := by rw [Int.tmod_eq_emod_of_nonneg q2]; simp
    have e2 : ((i : Int) + 1).tmod (m : Int) = (((i + 1) % m : Nat) : Int) := by rw [Int.tmod_eq_emod_of_nonneg (by omega)]; simp
    have e3 : (i : Int).tdiv (m : Int) = ((i / m : Nat) : Int) := by rw [Int.tdiv_eq_ediv_of_nonneg q2]; simp
    have d1 : i / m ≤ 1000 := Nat.le_trans (Nat.div_le_self _ _) hi
    generalize i % m = x1 at *
    generalize (i + 1) % m = x2 at *
    generalize i / m = x3 at *
    have s1 : (0 : Int) ≤ (x1 : Int) := by omega
    have s2 : (x1 : Int) < (m : Int) := by omega
    have s3 : (0 : Int) ≤ (x2 : Int) := by omega
    have s4 : (x2 : Int) < (m : Int) := by omega
    have s5 : (x3 : Int) ≤ 1000 := by omega
    have s6 : (0 : Int) < (m : Int) := by omega
    clear hc hB r1 r2 h0
    go_enter Tryz.func6, Tryz.ntmps6
    go_wp2_with fail
    go_quiet (fail)
    go_wp2
    go_ret
    have nn : 0 ≤ (c1 * 31 + c2 + (x3 : Int)) % (N : Int) := Int.emod_nonneg _ (by omega)
    have nl : (c1 * 31 + c2 + (x3 : Int)) % (N : Int) < (N : Int) := Int.emod_lt_of_pos _ (by omega)
    refine ⟨((c1 * 31 + c2 + (x3 : Int)) % (N : Int)).toNat, ?_, by omega, ⟨rfl, rfl, rfl, Nat.le_refl _, fun _ _ => rfl⟩⟩
    rw [Int.toNat_of_nonneg nn]
    rfl
theorem at_one (w : World) (B : Option Addr) (m cbp i N : Nat) (hm : m ≤ 1048576) (hi : i ≤ 1000) (hN : 1 ≤ N) (hN2 : N ≤ 65536) (hB : codeAt w B m) :
    Calls Tryz.prog 6 #[.slice B m cbp, .int .i64 i, .int .i64 N] w fun e w' => ∃ v : Nat, e = .returned (.int .i64 v) ∧ v < N ∧ Below w.heap.size w w' := by
  rcases Nat.lt_or_ge 1 N with h | h
  · exact at_any w B m cbp i N hm hi h hN2 hB
  · obtain rfl : N = 1 := by omega
    clear hB
    go_enter Tryz.func6, Tryz.ntmps6
    go_wp2
    go_ret
    exact ⟨0, rfl, by omega, Below.refl _ _⟩
end Go.Proofs.YtbkcgkffafjbgaaGreatDoor
