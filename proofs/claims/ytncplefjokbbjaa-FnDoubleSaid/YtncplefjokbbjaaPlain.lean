/- Plain facts on bits and limbs, with no program in them. -/
import Derived.WalkKit
import Derived.Laws.BitsAllLaws
namespace Go.Proofs.Ytncplefjokbbjaa
open Go.RowKit
theorem hide {p : Prop} (h : p) : Hid p := h
theorem unhide {p : Prop} (h : Hid p) : p := h
theorem ret_bool {a b : Bool} (h : a = b) : Ending.returned (.bool a) = .returned (.bool b) := by rw [h]
theorem mask51 (x : Int) (h0 : 0 ≤ x) (h1 : x < 18446744073709551616) : bits .and .u64 x 2251799813685247 = x % 2251799813685248 := by
  rw [u64_and x 2251799813685247 h0 h1 (by decide) (by decide)]
  have e : (2251799813685247 : Int).toNat = 2 ^ 51 - 1 := by decide
  rw [e, Nat.and_two_pow_sub_one_eq_mod]
  omega
/-- five limbs as a value -/
abbrev L5 (a0 a1 a2 a3 a4 : Int) : Value := .agg #[.int .u64 a0, .int .u64 a1, .int .u64 a2, .int .u64 a3, .int .u64 a4]
/-- the number of five limbs -/
def V5 (a0 a1 a2 a3 a4 : Int) : Int := a0 + 2251799813685248 * a1 + 5070602400912917605986812821504 * a2 + 11417981541647679048466287755595961091061972992 * a3 + 25711008708143844408671393477458601640355247900524685364822016 * a4
def pInt : Int := 57896044618658097711785492504343953926634992332820282019728792003956564819949
end Go.Proofs.Ytncplefjokbbjaa
