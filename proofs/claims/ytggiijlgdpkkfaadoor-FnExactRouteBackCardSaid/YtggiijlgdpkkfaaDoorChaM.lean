/- Words of 32 bits in a row, and ChaCha20 as functions on them, with no program in them. -/
import Derived.WalkKit
import Derived.Laws.BitsAllLaws
namespace Go.Proofs.YtggiijlgdpkkfaaDoor
open Go.RowKit
abbrev W32 := BitVec 32
/-- a word as the walk has it (no abbreviation: so that no rule opens it) -/
def wi (x : W32) : Int := (x.toNat : Int)
theorem wi_bd (x : W32) : 0 ≤ wi x ∧ wi x < 4294967296 := ⟨Int.natCast_nonneg _, by have := x.isLt; unfold wi; omega⟩
theorem w_and (x y : W32) : bits .and .u32 (wi x) (wi y) = wi (x &&& y) := by
  unfold wi; rw [u32_and_nat _ _ x.isLt y.isLt, BitVec.toNat_and]
theorem w_or (x y : W32) : bits .or .u32 (wi x) (wi y) = wi (x ||| y) := by
  unfold wi; rw [u32_or_nat _ _ x.isLt y.isLt, BitVec.toNat_or]
theorem w_xor (x y : W32) : bits .xor .u32 (wi x) (wi y) = wi (x ^^^ y) := by
  unfold wi; rw [u32_xor_nat _ _ x.isLt y.isLt, BitVec.toNat_xor]
theorem w_add (x y : W32) : IntKind.u32.wrap (wi x + wi y) = wi (x + y) := by
  unfold wi; rw [IntKind.wrap_u32', BitVec.toNat_add]; omega
theorem w_of (n : Int) : IntKind.u32.wrap n = wi (BitVec.ofInt 32 n) := by
  unfold wi; rw [IntKind.wrap_u32', BitVec.toNat_ofInt]; omega
theorem w_shr (x : W32) (n : Nat) : wi x / 2 ^ n = wi (x >>> n) := by
  unfold wi
  rw [BitVec.toNat_ushiftRight, Nat.shiftRight_eq_div_pow]
  simp
theorem w_shl (x : W32) (n : Nat) : IntKind.u32.wrap (wi x * 2 ^ n) = wi (x <<< n) := by
  unfold wi
  rw [IntKind.wrap_u32', BitVec.toNat_shiftLeft, Nat.shiftLeft_eq]
  simp
def rotl (x : W32) (n : Nat) : W32 := x <<< n ||| x >>> (32 - n)
theorem rot_as (x : W32) (n : Nat) (a b : Int) (ha : IntKind.u32.wrap (wi x * a) = IntKind.u32.wrap (wi x * 2 ^ n)) (hb : wi x / b = wi x / 2 ^ (32 - n)) : bits .or .u32 (IntKind.u32.wrap (wi x * a)) (wi x / b) = wi (rotl x n) := by
  rw [ha, hb, w_shl, w_shr, w_or]; rfl
/-- the i-th word (no abbreviation) -/
def gW (s : List W32) (i : Nat) : W32 := s.getD i 0
def sA (s : List W32) (x y : Nat) : List W32 := s.set x (gW s x + gW s y)
def sR (s : List W32) (x y r : Nat) : List W32 := s.set x (rotl (gW s x ^^^ gW s y) r)
/-- a quarter round, on the places a, b, c, d of a list -/
def qL (s : List W32) (a b c d : Nat) : List W32 := sR (sA (sR (sA (sR (sA (sR (sA s a b) d a 16) c d) b c 12) a b) d a 8) c d) b c 7
theorem sA_len (s : List W32) (x y : Nat) : (sA s x y).length = s.length := by simp [sA]
theorem sR_len (s : List W32) (x y r : Nat) : (sR s x y r).length = s.length := by simp [sR]
theorem qL_len (s : List W32) (a b c d : Nat) : (qL s a b c d).length = s.length := by simp [qL, sA_len, sR_len]
end Go.Proofs.YtggiijlgdpkkfaaDoor
