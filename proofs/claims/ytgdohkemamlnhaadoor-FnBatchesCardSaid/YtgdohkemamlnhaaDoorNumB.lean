/- The program's numberBytes, of four bytes, two and one. -/
import Derived.Test.YtgdohkemamlnhaaDoorMsgB
namespace Go.Proofs.YtgdohkemamlnhaaDoor
open Go.RowKit
set_option maxHeartbeats 4000000
set_option maxRecDepth 20000
def num1 (n : Int) : List Int := [n % 256]
theorem num1_isB (n : Int) : isB (num1 n) := by
  intro x hx
  simp [num1] at hx
  omega
theorem own_new (w : World) (xs : List Int) (h : isB xs) : ownB w.heap.size (w.alloc (rowObj 5 .u8 xs [])) (.slice (some ⟨w.heap.size, 0, none⟩) xs.length xs.length) xs :=
  ⟨h, .inr ⟨_, _, [], rfl, Nat.le_refl _, heap_at _ _ _ rfl, Nat.le_refl _⟩⟩
theorem nb1 (n : Int) (w : World) : Calls Tryd.prog 40 #[.int .i64 n, .int .i64 1] w fun e w' => ∃ v, e = .returned v ∧ ownB w.heap.size w' v (num1 n) ∧ Below w.heap.size w w' := by
  have mk : (Instr.makeSlice 22 (.int .i64 1) (.int .i64 1)).run Tryd.prog w = .ok (.slice (some ⟨w.heap.size, 0, none⟩) 1 1) (w.alloc (.cells #[.int .u8 0] 5)) := make_bytes 1 (by omega) w
  go_enter Tryd.func40, Tryd.ntmps40
  go_wp2
  refine wp_loop_rounds 2 ?_
  rw [rounds_succ]
  go_wp2
  rw [rounds_succ]
  go_wp2
  go_ret
  exact ⟨_, rfl, own_new w (num1 n) (num1_isB n), (Below.refl _ _).alloc (Nat.le_refl _) _⟩
theorem nb2 (n : Int) (w : World) : Calls Tryd.prog 40 #[.int .i64 n, .int .i64 2] w fun e w' => ∃ v, e = .returned v ∧ ownB w.heap.size w' v (num2 n) ∧ Below w.heap.size w w' := by
  have mk : (Instr.makeSlice 22 (.int .i64 2) (.int .i64 2)).run Tryd.prog w = .ok (.slice (some ⟨w.heap.size, 0, none⟩) 2 2) (w.alloc (.cells #[.int .u8 0, .int .u8 0] 5)) := make_bytes 2 (by omega) w
  go_enter Tryd.func40, Tryd.ntmps40
  go_wp2
  refine wp_loop_rounds 3 ?_
  rw [rounds_succ]
  go_wp2
  rw [rounds_succ]
  go_wp2
  rw [rounds_succ]
  go_wp2
  go_ret
  exact ⟨_, rfl, own_new w (num2 n) (num2_isB n), (Below.refl _ _).alloc (Nat.le_refl _) _⟩
theorem nb4 (n : Int) (w : World) : Calls Tryd.prog 40 #[.int .i64 n, .int .i64 4] w fun e w' => ∃ v, e = .returned v ∧ ownB w.heap.size w' v (num4 n) ∧ Below w.heap.size w w' := by
  have mk : (Instr.makeSlice 22 (.int .i64 4) (.int .i64 4)).run Tryd.prog w = .ok (.slice (some ⟨w.heap.size, 0, none⟩) 4 4) (w.alloc (.cells #[.int .u8 0, .int .u8 0, .int .u8 0, .int .u8 0] 5)) := make_bytes 4 (by omega) w
  go_enter Tryd.func40, Tryd.ntmps40
  go_wp2
  refine wp_loop_rounds 5 ?_
  rw [rounds_succ]
  go_wp2
  rw [rounds_succ]
  go_wp2
  rw [rounds_succ]
  go_wp2
  rw [rounds_succ]
  go_wp2
  rw [rounds_succ]
  go_wp2
  go_ret
  exact ⟨_, rfl, own_new w (num4 n) (num4_isB n), (Below.refl _ _).alloc (Nat.le_refl _) _⟩
end Go.Proofs.YtgdohkemamlnhaaDoor
