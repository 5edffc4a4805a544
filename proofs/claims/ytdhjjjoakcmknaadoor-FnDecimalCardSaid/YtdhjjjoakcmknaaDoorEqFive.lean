/- Contracts of FieldInverse on both sides, and the law of it. -/
import Derived.Test.YtdhjjjoakcmknaaDoorImplB
import Derived.DeepKeys
namespace Go.Proofs.YtdhjjjoakcmknaaDoor
open Go.RowKit
set_option maxHeartbeats 3200000
theorem items_cons (xs ys : Array Value) (i : Nat) (is : List Nat) (a b : Int) (w : World) (hx : xs[i]? = some (.int .u64 a)) (hy : ys[i]? = some (.int .u64 b)) :
    (Op.eqItems 9999 33 1 xs ys (i :: is)).run Tryd.prog w = if (a == b) = true then (Op.eqItems 9999 33 1 xs ys is).run Tryd.prog w else .ok false w := by
  have he : Tryd.prog.plainKey 33 = true := by kernel_rfl
  simp only [Op.eqItems, Sem.run_bind, Nat.mul_one, run_part_plain w he hx, run_part_plain w he hy, Result.andThen_ok, run_equalIn_int w 9998 33 .u64 .u64 a b Tryd.underlying33]
  cases (a == b) <;> simp
theorem eq5 (m0 m1 m2 m3 m4 : Int) (w : World) : (Op.equalIn 10000 35 (L5 m0 m1 m2 m3 m4) (L5 0 0 0 0 0)).run Tryd.prog w = .ok (m0 == 0 && (m1 == 0 && (m2 == 0 && (m3 == 0 && m4 == 0)))) w := by
  obtain ⟨i, hi⟩ := info_of_underlying Tryd.underlying33
  have hc : Tryd.prog.cellsOf 33 = 1 := by kernel_rfl
  rw [run_equalIn_array w 9999 _ _ Tryd.underlying35 hi, hc, show List.range 5 = [0, 1, 2, 3, 4] from rfl,
    items_cons _ _ 0 _ m0 0 w rfl rfl, items_cons _ _ 1 _ m1 0 w rfl rfl, items_cons _ _ 2 _ m2 0 w rfl rfl, items_cons _ _ 3 _ m3 0 w rfl rfl, items_cons _ _ 4 _ m4 0 w rfl rfl]
  cases (m0 == 0) <;> cases (m1 == 0) <;> cases (m2 == 0) <;> cases (m3 == 0) <;> cases (m4 == 0) <;> simp [Op.eqItems]
theorem zero5 {m0 m1 m2 m3 m4 : Int} {n : Nat} (h : In51 m0 m1 m2 m3 m4) (hv : V5 m0 m1 m2 m3 m4 = (n : Int)) : (m0 == 0 && (m1 == 0 && (m2 == 0 && (m3 == 0 && m4 == 0)))) = decide (n = 0) := by
  obtain ⟨h0, h1, h2, h3, h4⟩ := h
  unfold V5 at hv
  rw [Bool.eq_iff_iff]
  simp only [Bool.and_eq_true, beq_iff_eq, decide_eq_true_eq]
  omega
end Go.Proofs.YtdhjjjoakcmknaaDoor
