/- Contracts of the products of two words, and of a sum of such. -/
import Derived.Test.YtncplefjokbbjaaImplB
import Derived.Laws.MathBits
import Derived.Laws.Externs
namespace Go.Proofs.Ytncplefjokbbjaa
open Go.RowKit
set_option maxHeartbeats 800000
set_option maxRecDepth 10000
theorem mul64_any (x y : Int) (hx0 : 0 ≤ x) (hx : x < 18446744073709551616) (hy0 : 0 ≤ y) (hy : y < 18446744073709551616) (w : World) :
    Calls Try.prog 63 #[.int .u64 x, .int .u64 y] w fun e w' => e = .returned (.tuple #[.int .u64 (x * y / 18446744073709551616), .int .u64 (x * y % 18446744073709551616)]) ∧ w' = w := by
  have a1 := and_low32 x hx0 hx
  have a2 := and_low32 y hy0 hy
  have pos : ∀ z : Int, 0 ≤ z % 18446744073709551616 ∧ z % 18446744073709551616 < 18446744073709551616 := fun z => by omega
  go_enter Try.func63, Try.ntmps63
  go_wp2
  go_ret2
  refine ⟨?_, rfl⟩
  have key := mul64_arith x y hx0 hx hy0 hy
  show Ending.returned (.tuple #[.int .u64 _, .int .u64 _]) = _
  simp only [IntKind.wrap_u64]
  rw [and_low32 _ (pos _).1 (pos _).2, key]
theorem add64_call (x y c : Int) (hx0 : 0 ≤ x) (hy0 : 0 ≤ y) (hc0 : 0 ≤ c) (hc : c ≤ 1) (w : World) :
    (callFunc 64 #[.int .u64 x, .int .u64 y, .int .u64 c]).run Try.prog w = .ok (.value (.tuple #[.int .u64 ((x + y + c) % 18446744073709551616), .int .u64 ((x + y + c) / 18446744073709551616)])) w := by
  rw [run_callFunc_extern Try.func64 (by kernel_rfl) (by kernel_rfl) (by kernel_rfl) (e := add64Entry) (by kernel_rfl), run_add64 x y c hx0 hy0 hc0 hc]
  rfl
abbrev W2 (h l : Int) : Value := .agg #[.int .u64 h, .int .u64 l]
theorem plusProduct_any (h l a b : Int) (hh : 0 ≤ h ∧ h < 18446744073709551616) (hl : 0 ≤ l ∧ l < 18446744073709551616) (ha : 0 ≤ a ∧ a < 18446744073709551616) (hb : 0 ≤ b ∧ b < 18446744073709551616)
    (hsum : 18446744073709551616 * h + l + a * b < 340282366920938463463374607431768211456) (w : World) :
    Calls Try.prog 62 #[W2 h l, .int .u64 a, .int .u64 b] w fun e w' => (∃ h' l' : Int, e = .returned (W2 h' l') ∧ (0 ≤ h' ∧ h' < 18446744073709551616) ∧ (0 ≤ l' ∧ l' < 18446744073709551616) ∧ 18446744073709551616 * h' + l' = 18446744073709551616 * h + l + a * b) ∧ Below w.heap.size w w' := by
  have hab := Int.mul_nonneg ha.1 hb.1
  go_enter Try.func62, Try.ntmps62
  go_wp2_with (go_at_call 63; refine (mul64_any a b ha.1 ha.2 hb.1 hb.2 _).mono ?_; rintro e w' ⟨rfl, rfl⟩)
  generalize hq : a * b = q at *
  have HQ := hide hq
  clear hq
  rw [add64_call l (q % 18446744073709551616) 0 (by omega) (by omega) (by omega) (by omega)]
  go_wp2
  rw [add64_call h (q / 18446744073709551616) ((l + q % 18446744073709551616) / 18446744073709551616) (by omega) (by omega) (by omega) (by omega)]
  go_wp2
  refine bodyPost_ret (v := W2 ((h + q / 18446744073709551616 + (l + q % 18446744073709551616) / 18446744073709551616) % 18446744073709551616) ((l + q) % 18446744073709551616)) (by simp [results, Try.results62, go_sem]) rfl ⟨⟨_, _, rfl, by omega, by omega, by rw [unhide HQ]; omega⟩, by go_grown⟩
end Go.Proofs.Ytncplefjokbbjaa
