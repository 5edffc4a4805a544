/- Plain facts on letters and digits of a name, with no program in them. -/
import Derived.WalkKit
namespace Go.Proofs.Ytmcggkdfodagfag
open Go.RowKit
theorem hide {p : Prop} (h : p) : Hid p := h
theorem unhide {p : Prop} (h : Hid p) : p := h
def digB (c : Int) : Bool := decide (48 ≤ c ∧ c ≤ 57)
def letB (c : Int) : Bool := decide ((97 ≤ c ∧ c ≤ 122) ∨ (65 ≤ c ∧ c ≤ 90) ∨ c = 95)
theorem dig_t {c : Int} (h : 48 ≤ c ∧ c ≤ 57) : digB c = true := by simp [digB]; omega
theorem dig_f {c : Int} (h : ¬ (48 ≤ c ∧ c ≤ 57)) : digB c = false := by simp [digB]; omega
theorem let_t {c : Int} (h : (97 ≤ c ∧ c ≤ 122) ∨ (65 ≤ c ∧ c ≤ 90) ∨ c = 95) : letB c = true := by simp [letB]; omega
theorem let_f {c : Int} (h : ¬ ((97 ≤ c ∧ c ≤ 122) ∨ (65 ≤ c ∧ c ≤ 90) ∨ c = 95)) : letB c = false := by simp [letB]; omega
theorem let_not_dig {c : Int} (h : letB c = true) : digB c = false := by
  simp only [letB, decide_eq_true_eq] at h; exact dig_f (by omega)
/-- the byte at a place, as a number -/
def byteAt (s : ByteArray) (k : Nat) : Int := if h : k < s.size then (s[k].toNat : Int) else 0
theorem byteAt_lt {s : ByteArray} {k : Nat} (h : k < s.size) : byteAt s k = (s[k].toNat : Int) := by simp [byteAt, h]
/-- what both texts answer -/
def nameB (s : ByteArray) : Bool := decide (1 ≤ s.size ∧ s.size ≤ 40 ∧ letB (byteAt s 0) = true ∧ ∀ i, i < s.size → letB (byteAt s i) = true ∨ digB (byteAt s i) = true)
end Go.Proofs.Ytmcggkdfodagfag
