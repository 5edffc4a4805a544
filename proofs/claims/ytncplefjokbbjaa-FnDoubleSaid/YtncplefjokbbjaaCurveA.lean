/- Contracts of the curve's steps in limbs. -/
import Derived.Test.YtncplefjokbbjaaOpInv
import Derived.Test.YtncplefjokbbjaaClamp
namespace Go.Proofs.Ytncplefjokbbjaa
open Go.RowKit
set_option maxHeartbeats 1600000
theorem and0 (x : Int) (h : 0 ≤ x ∧ x < 18446744073709551616) : bits .and .u64 x 0 = 0 := by
  rw [u64_and x 0 h.1 h.2 (by decide) (by decide)]; simp
theorem andF (x : Int) (h : 0 ≤ x ∧ x < 18446744073709551616) : bits .and .u64 x 18446744073709551615 = x := by
  rw [u64_and x 18446744073709551615 h.1 h.2 (by decide) (by decide)]
  have e : (18446744073709551615 : Int).toNat = 2 ^ 64 - 1 := by decide
  rw [e, Nat.and_two_pow_sub_one_eq_mod]
  omega
theorem xor_bd (x y : Int) (hx : 0 ≤ x ∧ x < 18446744073709551616) (hy : 0 ≤ y ∧ y < 18446744073709551616) : 0 ≤ bits .xor .u64 x y ∧ bits .xor .u64 x y < 18446744073709551616 := by
  rw [u64_xor x y hx.1 hx.2 hy.1 hy.2]
  have : x.toNat ^^^ y.toNat < 2 ^ 64 := Nat.xor_lt_two_pow (by omega) (by omega)
  omega
theorem xor0 (x : Int) (h : 0 ≤ x ∧ x < 18446744073709551616) : bits .xor .u64 x 0 = x := by
  rw [u64_xor x 0 h.1 h.2 (by decide) (by decide)]; simp; omega
theorem xorA (x y : Int) (hx : 0 ≤ x ∧ x < 18446744073709551616) (hy : 0 ≤ y ∧ y < 18446744073709551616) : bits .xor .u64 x (bits .xor .u64 x y) = y := by
  have hb := xor_bd x y hx hy
  rw [u64_xor x _ hx.1 hx.2 hb.1 hb.2, u64_xor x y hx.1 hx.2 hy.1 hy.2, Int.toNat_natCast, ← Nat.xor_assoc, Nat.xor_self, Nat.zero_xor]
  omega
theorem xorB (x y : Int) (hx : 0 ≤ x ∧ x < 18446744073709551616) (hy : 0 ≤ y ∧ y < 18446744073709551616) : bits .xor .u64 y (bits .xor .u64 x y) = x := by
  have hb := xor_bd x y hx hy
  rw [u64_xor y _ hy.1 hy.2 hb.1 hb.2, u64_xor x y hx.1 hx.2 hy.1 hy.2, Int.toNat_natCast, Nat.xor_comm x.toNat, ← Nat.xor_assoc, Nat.xor_self, Nat.zero_xor]
  omega
theorem swapped_no (a0 a1 a2 a3 a4 b0 b1 b2 b3 b4 : Int) (w : World) (ha : Car a0 a1 a2 a3 a4) (hb : Car b0 b1 b2 b3 b4) :
    Calls Try.prog 48 #[.int .u64 0, L5 a0 a1 a2 a3 a4, L5 b0 b1 b2 b3 b4] w fun e w' => e = .returned (.tuple #[L5 a0 a1 a2 a3 a4, L5 b0 b1 b2 b3 b4]) ∧ Below w.heap.size w w' := by
  obtain ⟨h0, h1, h2, h3, h4⟩ := ha
  obtain ⟨g0, g1, g2, g3, g4⟩ := hb
  have e0 := and0 (bits .xor .u64 a0 b0) (xor_bd a0 b0 (show 0 ≤ a0 ∧ a0 < 18446744073709551616 by omega) (show 0 ≤ b0 ∧ b0 < 18446744073709551616 by omega))
  have p0 := xor0 a0 (show 0 ≤ a0 ∧ a0 < 18446744073709551616 by omega)
  have q0 := xor0 b0 (show 0 ≤ b0 ∧ b0 < 18446744073709551616 by omega)
  have e1 := and0 (bits .xor .u64 a1 b1) (xor_bd a1 b1 (show 0 ≤ a1 ∧ a1 < 18446744073709551616 by omega) (show 0 ≤ b1 ∧ b1 < 18446744073709551616 by omega))
  have p1 := xor0 a1 (show 0 ≤ a1 ∧ a1 < 18446744073709551616 by omega)
  have q1 := xor0 b1 (show 0 ≤ b1 ∧ b1 < 18446744073709551616 by omega)
  have e2 := and0 (bits .xor .u64 a2 b2) (xor_bd a2 b2 (show 0 ≤ a2 ∧ a2 < 18446744073709551616 by omega) (show 0 ≤ b2 ∧ b2 < 18446744073709551616 by omega))
  have p2 := xor0 a2 (show 0 ≤ a2 ∧ a2 < 18446744073709551616 by omega)
  have q2 := xor0 b2 (show 0 ≤ b2 ∧ b2 < 18446744073709551616 by omega)
  have e3 := and0 (bits .xor .u64 a3 b3) (xor_bd a3 b3 (show 0 ≤ a3 ∧ a3 < 18446744073709551616 by omega) (show 0 ≤ b3 ∧ b3 < 18446744073709551616 by omega))
  have p3 := xor0 a3 (show 0 ≤ a3 ∧ a3 < 18446744073709551616 by omega)
  have q3 := xor0 b3 (show 0 ≤ b3 ∧ b3 < 18446744073709551616 by omega)
  have e4 := and0 (bits .xor .u64 a4 b4) (xor_bd a4 b4 (show 0 ≤ a4 ∧ a4 < 18446744073709551616 by omega) (show 0 ≤ b4 ∧ b4 < 18446744073709551616 by omega))
  have p4 := xor0 a4 (show 0 ≤ a4 ∧ a4 < 18446744073709551616 by omega)
  have q4 := xor0 b4 (show 0 ≤ b4 ∧ b4 < 18446744073709551616 by omega)
  clear h0 h1 h2 h3 h4 g0 g1 g2 g3 g4
  go_enter Try.func48, Try.ntmps48
  go_wp2
  refine wp_loop_rounds 6 ?_
  rw [rounds_succ]; go_wp2; go_region; go_wp2
  rw [rounds_succ]; go_wp2; go_region; go_wp2
  rw [rounds_succ]; go_wp2; go_region; go_wp2
  rw [rounds_succ]; go_wp2; go_region; go_wp2
  rw [rounds_succ]; go_wp2; go_region; go_wp2
  rw [rounds_succ]; go_wp2; go_region; go_wp2
  refine bodyPost_ret (v := .tuple #[L5 a0 a1 a2 a3 a4, L5 b0 b1 b2 b3 b4]) (by simp [results, Try.results48, go_sem]) rfl ⟨rfl, ?_⟩
  go_grown
theorem swapped_yes (a0 a1 a2 a3 a4 b0 b1 b2 b3 b4 : Int) (w : World) (ha : Car a0 a1 a2 a3 a4) (hb : Car b0 b1 b2 b3 b4) :
    Calls Try.prog 48 #[.int .u64 1, L5 a0 a1 a2 a3 a4, L5 b0 b1 b2 b3 b4] w fun e w' => e = .returned (.tuple #[L5 b0 b1 b2 b3 b4, L5 a0 a1 a2 a3 a4]) ∧ Below w.heap.size w w' := by
  obtain ⟨h0, h1, h2, h3, h4⟩ := ha
  obtain ⟨g0, g1, g2, g3, g4⟩ := hb
  have e0 := andF (bits .xor .u64 a0 b0) (xor_bd a0 b0 (show 0 ≤ a0 ∧ a0 < 18446744073709551616 by omega) (show 0 ≤ b0 ∧ b0 < 18446744073709551616 by omega))
  have p0 := xorA a0 b0 (show 0 ≤ a0 ∧ a0 < 18446744073709551616 by omega) (show 0 ≤ b0 ∧ b0 < 18446744073709551616 by omega)
  have q0 := xorB a0 b0 (show 0 ≤ a0 ∧ a0 < 18446744073709551616 by omega) (show 0 ≤ b0 ∧ b0 < 18446744073709551616 by omega)
  have e1 := andF (bits .xor .u64 a1 b1) (xor_bd a1 b1 (show 0 ≤ a1 ∧ a1 < 18446744073709551616 by omega) (show 0 ≤ b1 ∧ b1 < 18446744073709551616 by omega))
  have p1 := xorA a1 b1 (show 0 ≤ a1 ∧ a1 < 18446744073709551616 by omega) (show 0 ≤ b1 ∧ b1 < 18446744073709551616 by omega)
  have q1 := xorB a1 b1 (show 0 ≤ a1 ∧ a1 < 18446744073709551616 by omega) (show 0 ≤ b1 ∧ b1 < 18446744073709551616 by omega)
  have e2 := andF (bits .xor .u64 a2 b2) (xor_bd a2 b2 (show 0 ≤ a2 ∧ a2 < 18446744073709551616 by omega) (show 0 ≤ b2 ∧ b2 < 18446744073709551616 by omega))
  have p2 := xorA a2 b2 (show 0 ≤ a2 ∧ a2 < 18446744073709551616 by omega) (show 0 ≤ b2 ∧ b2 < 18446744073709551616 by omega)
  have q2 := xorB a2 b2 (show 0 ≤ a2 ∧ a2 < 18446744073709551616 by omega) (show 0 ≤ b2 ∧ b2 < 18446744073709551616 by omega)
  have e3 := andF (bits .xor .u64 a3 b3) (xor_bd a3 b3 (show 0 ≤ a3 ∧ a3 < 18446744073709551616 by omega) (show 0 ≤ b3 ∧ b3 < 18446744073709551616 by omega))
  have p3 := xorA a3 b3 (show 0 ≤ a3 ∧ a3 < 18446744073709551616 by omega) (show 0 ≤ b3 ∧ b3 < 18446744073709551616 by omega)
  have q3 := xorB a3 b3 (show 0 ≤ a3 ∧ a3 < 18446744073709551616 by omega) (show 0 ≤ b3 ∧ b3 < 18446744073709551616 by omega)
  have e4 := andF (bits .xor .u64 a4 b4) (xor_bd a4 b4 (show 0 ≤ a4 ∧ a4 < 18446744073709551616 by omega) (show 0 ≤ b4 ∧ b4 < 18446744073709551616 by omega))
  have p4 := xorA a4 b4 (show 0 ≤ a4 ∧ a4 < 18446744073709551616 by omega) (show 0 ≤ b4 ∧ b4 < 18446744073709551616 by omega)
  have q4 := xorB a4 b4 (show 0 ≤ a4 ∧ a4 < 18446744073709551616 by omega) (show 0 ≤ b4 ∧ b4 < 18446744073709551616 by omega)
  have hw : IntKind.u64.wrap (-1) = 18446744073709551615 := by decide
  clear h0 h1 h2 h3 h4 g0 g1 g2 g3 g4
  go_enter Try.func48, Try.ntmps48
  go_wp2
  refine wp_loop_rounds 6 ?_
  rw [rounds_succ]; go_wp2; go_region; go_wp2
  rw [rounds_succ]; go_wp2; go_region; go_wp2
  rw [rounds_succ]; go_wp2; go_region; go_wp2
  rw [rounds_succ]; go_wp2; go_region; go_wp2
  rw [rounds_succ]; go_wp2; go_region; go_wp2
  rw [rounds_succ]; go_wp2; go_region; go_wp2
  refine bodyPost_ret (v := .tuple #[L5 b0 b1 b2 b3 b4, L5 a0 a1 a2 a3 a4]) (by simp [results, Try.results48, go_sem]) rfl ⟨rfl, ?_⟩
  go_grown
end Go.Proofs.Ytncplefjokbbjaa
