/- Thirty-two bytes of a number: what texts of field numbers are. -/
import Derived.Test.YtncplefjokbbjaaRows
import Derived.Test.YtncplefjokbbjaaPlain
import Derived.Laws.BytesArg
import Derived.Laws.Rows
namespace Go.Proofs.Ytncplefjokbbjaa
open Go.RowKit
@[go_sem] theorem conv32 (X : World) (e0 e1 e2 e3 e4 e5 e6 e7 e8 e9 e10 e11 e12 e13 e14 e15 e16 e17 e18 e19 e20 e21 e22 e23 e24 e25 e26 e27 e28 e29 e30 e31 : Int) (t : TypeId) :
    (convert 30 9 (.slice (some ⟨X.heap.size, 0, none⟩) 32 32)).run Try.prog (X.alloc (.cells #[.int .u8 e0, .int .u8 e1, .int .u8 e2, .int .u8 e3, .int .u8 e4, .int .u8 e5, .int .u8 e6, .int .u8 e7, .int .u8 e8, .int .u8 e9, .int .u8 e10, .int .u8 e11, .int .u8 e12, .int .u8 e13, .int .u8 e14, .int .u8 e15, .int .u8 e16, .int .u8 e17, .int .u8 e18, .int .u8 e19, .int .u8 e20, .int .u8 e21, .int .u8 e22, .int .u8 e23, .int .u8 e24, .int .u8 e25, .int .u8 e26, .int .u8 e27, .int .u8 e28, .int .u8 e29, .int .u8 e30, .int .u8 e31] t)) =
      .ok (.string (strOfNums [e0, e1, e2, e3, e4, e5, e6, e7, e8, e9, e10, e11, e12, e13, e14, e15, e16, e17, e18, e19, e20, e21, e22, e23, e24, e25, e26, e27, e28, e29, e30, e31])) (X.alloc (.cells #[.int .u8 e0, .int .u8 e1, .int .u8 e2, .int .u8 e3, .int .u8 e4, .int .u8 e5, .int .u8 e6, .int .u8 e7, .int .u8 e8, .int .u8 e9, .int .u8 e10, .int .u8 e11, .int .u8 e12, .int .u8 e13, .int .u8 e14, .int .u8 e15, .int .u8 e16, .int .u8 e17, .int .u8 e18, .int .u8 e19, .int .u8 e20, .int .u8 e21, .int .u8 e22, .int .u8 e23, .int .u8 e24, .int .u8 e25, .int .u8 e26, .int .u8 e27, .int .u8 e28, .int .u8 e29, .int .u8 e30, .int .u8 e31] t)) := by
  refine run_convert_bytes_arg _ 30 5 Try.underlying30 Try.underlying5 X.heap.size 0 32 32 [e0, e1, e2, e3, e4, e5, e6, e7, e8, e9, e10, e11, e12, e13, e14, e15, e16, e17, e18, e19, e20, e21, e22, e23, e24, e25, e26, e27, e28, e29, e30, e31] rfl ?_ 9 Try.underlying9
  intro i hi
  rw [Nat.zero_add, cell_of_row _ _ _ _ _ _ (heap_alloc_new X _)]
  rcases i with _ | _ | _ | _ | _ | _ | _ | _ | _ | _ | _ | _ | _ | _ | _ | _ | _ | _ | _ | _ | _ | _ | _ | _ | _ | _ | _ | _ | _ | _ | _ | _ | i
  all_goals first | rfl | (exfalso; omega)
/-- the thirty-two bytes of a number, the lowest first -/
def enc (n : Int) : ByteArray := strOfNums ((List.range 32).map fun i => n / (256 ^ i : Nat) % 256)
theorem or_join (k : Nat) (x y : Int) (hx0 : 0 ≤ x) (hx : x < (2 ^ k : Nat)) (hy0 : 0 ≤ y) (hy : y % (2 ^ k : Nat) = 0) (hy1 : y < 18446744073709551616) (hx1 : x < 18446744073709551616) : bits .or .u64 x y = x + y := by
  rw [u64_or x y hx0 hx1 hy0 hy1, Nat.or_comm]
  obtain ⟨X, rfl⟩ := Int.eq_ofNat_of_zero_le hx0
  obtain ⟨Y, rfl⟩ := Int.eq_ofNat_of_zero_le hy0
  rw [Int.toNat_natCast, Int.toNat_natCast, nat_join k Y X (by exact_mod_cast hy) (by exact_mod_cast hx)]
  omega
end Go.Proofs.Ytncplefjokbbjaa
