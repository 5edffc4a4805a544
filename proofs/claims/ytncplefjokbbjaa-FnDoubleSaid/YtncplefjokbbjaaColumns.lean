/- The columns of a product of five limbs by five, and what they come to modulo the prime. -/
import Derived.Test.YtncplefjokbbjaaImplB
namespace Go.Proofs.Ytncplefjokbbjaa
/-- what the pair of limbs number n (five to a row) adds to column k -/
def term (a0 a1 a2 a3 a4 b0 b1 b2 b3 b4 : Int) (k : Nat) : Nat → Int
  | 0 => if k = 0 then a0 * b0 else 0
  | 1 => if k = 1 then a0 * b1 else 0
  | 2 => if k = 2 then a0 * b2 else 0
  | 3 => if k = 3 then a0 * b3 else 0
  | 4 => if k = 4 then a0 * b4 else 0
  | 5 => if k = 1 then a1 * b0 else 0
  | 6 => if k = 2 then a1 * b1 else 0
  | 7 => if k = 3 then a1 * b2 else 0
  | 8 => if k = 4 then a1 * b3 else 0
  | 9 => if k = 0 then a1 * 19 * b4 else 0
  | 10 => if k = 2 then a2 * b0 else 0
  | 11 => if k = 3 then a2 * b1 else 0
  | 12 => if k = 4 then a2 * b2 else 0
  | 13 => if k = 0 then a2 * 19 * b3 else 0
  | 14 => if k = 1 then a2 * 19 * b4 else 0
  | 15 => if k = 3 then a3 * b0 else 0
  | 16 => if k = 4 then a3 * b1 else 0
  | 17 => if k = 0 then a3 * 19 * b2 else 0
  | 18 => if k = 1 then a3 * 19 * b3 else 0
  | 19 => if k = 2 then a3 * 19 * b4 else 0
  | 20 => if k = 4 then a4 * b0 else 0
  | 21 => if k = 0 then a4 * 19 * b1 else 0
  | 22 => if k = 1 then a4 * 19 * b2 else 0
  | 23 => if k = 2 then a4 * 19 * b3 else 0
  | 24 => if k = 3 then a4 * 19 * b4 else 0
  | _ => 0
def col (a0 a1 a2 a3 a4 b0 b1 b2 b3 b4 : Int) (k : Nat) : Nat → Int
  | 0 => 0
  | n + 1 => col a0 a1 a2 a3 a4 b0 b1 b2 b3 b4 k n + term a0 a1 a2 a3 a4 b0 b1 b2 b3 b4 k n
theorem cols_value (a0 a1 a2 a3 a4 b0 b1 b2 b3 b4 : Int) :
    ∃ q : Int, V5 a0 a1 a2 a3 a4 * V5 b0 b1 b2 b3 b4 = V5 (col a0 a1 a2 a3 a4 b0 b1 b2 b3 b4 0 25) (col a0 a1 a2 a3 a4 b0 b1 b2 b3 b4 1 25) (col a0 a1 a2 a3 a4 b0 b1 b2 b3 b4 2 25) (col a0 a1 a2 a3 a4 b0 b1 b2 b3 b4 3 25) (col a0 a1 a2 a3 a4 b0 b1 b2 b3 b4 4 25) + pInt * q := by
  refine ⟨a1 * b4 + a2 * b3 + a3 * b2 + a4 * b1 + 2251799813685248 * (a2 * b4 + a3 * b3 + a4 * b2) + 5070602400912917605986812821504 * (a3 * b4 + a4 * b3) + 11417981541647679048466287755595961091061972992 * (a4 * b4), ?_⟩
  simp only [col, term, if_true, if_false, Nat.reduceEqDiff, V5, pInt]
  grind
theorem mul_bd {x y : Int} (hx : 0 ≤ x ∧ x < 2251799813685504) (hy : 0 ≤ y ∧ y < 2251799813685504) : 0 ≤ x * y ∧ x * y ≤ 5070602400914070527491419668480 :=
  ⟨Int.mul_nonneg hx.1 hy.1, by
    have h := Int.mul_le_mul (show x ≤ 2251799813685503 by omega) (show y ≤ 2251799813685503 by omega) hy.1 (by omega)
    omega⟩
theorem mul_bd19 {x y : Int} (hx : 0 ≤ x ∧ x < 2251799813685504) (hy : 0 ≤ y ∧ y < 2251799813685504) : 0 ≤ x * 19 * y ∧ x * 19 * y ≤ 162259276829213363391578010288128 := by
  have h := mul_bd hx hy
  have e : x * 19 * y = 19 * (x * y) := by rw [Int.mul_right_comm, Int.mul_comm]
  omega
theorem mul_bdw {x y : Int} (hx : 0 ≤ x ∧ x < 2251799813685504) (hy : 0 ≤ y ∧ y < 2251799813685504) : 0 ≤ x * y ∧ x * y ≤ 162259276829213363391578010288128 := by
  have h := mul_bd hx hy
  omega
theorem term_bd {a0 a1 a2 a3 a4 b0 b1 b2 b3 b4 : Int} (ha : Car a0 a1 a2 a3 a4) (hb : Car b0 b1 b2 b3 b4) (k n : Nat) : 0 ≤ term a0 a1 a2 a3 a4 b0 b1 b2 b3 b4 k n ∧ term a0 a1 a2 a3 a4 b0 b1 b2 b3 b4 k n ≤ 162259276829213363391578010288128 := by
  obtain ⟨⟨x0, x0'⟩, ⟨x1, x1'⟩, ⟨x2, x2'⟩, ⟨x3, x3'⟩, ⟨x4, x4'⟩⟩ := ha
  obtain ⟨⟨y0, y0'⟩, ⟨y1, y1'⟩, ⟨y2, y2'⟩, ⟨y3, y3'⟩, ⟨y4, y4'⟩⟩ := hb
  rcases n with _ | _ | _ | _ | _ | _ | _ | _ | _ | _ | _ | _ | _ | _ | _ | _ | _ | _ | _ | _ | _ | _ | _ | _ | _ | n
  all_goals simp only [term]
  all_goals try split
  all_goals first
    | exact ⟨by omega, by omega⟩
    | exact mul_bd19 ⟨by omega, by omega⟩ ⟨by omega, by omega⟩
    | exact mul_bdw ⟨by omega, by omega⟩ ⟨by omega, by omega⟩
theorem col_bd {a0 a1 a2 a3 a4 b0 b1 b2 b3 b4 : Int} (ha : Car a0 a1 a2 a3 a4) (hb : Car b0 b1 b2 b3 b4) (k n : Nat) : 0 ≤ col a0 a1 a2 a3 a4 b0 b1 b2 b3 b4 k n ∧ col a0 a1 a2 a3 a4 b0 b1 b2 b3 b4 k n ≤ n * 162259276829213363391578010288128 := by
  induction n with
  | zero => simp [col]
  | succ n ih =>
    have h := term_bd ha hb k n
    simp only [col]
    omega
theorem col4_bd {a0 a1 a2 a3 a4 b0 b1 b2 b3 b4 : Int} (ha : Car a0 a1 a2 a3 a4) (hb : Car b0 b1 b2 b3 b4) : col a0 a1 a2 a3 a4 b0 b1 b2 b3 b4 4 25 ≤ 25353012004570352637457098342400 := by
  obtain ⟨x0, ⟨x1, x1'⟩, ⟨x2, x2'⟩, ⟨x3, x3'⟩, ⟨x4, x4'⟩⟩ := ha
  obtain ⟨y0, ⟨y1, y1'⟩, ⟨y2, y2'⟩, ⟨y3, y3'⟩, ⟨y4, y4'⟩⟩ := hb
  have e : col a0 a1 a2 a3 a4 b0 b1 b2 b3 b4 4 25 = a0 * b4 + a1 * b3 + a2 * b2 + a3 * b1 + a4 * b0 := by simp [col, term]
  have p1 := mul_bd x0 (show 0 ≤ b4 ∧ b4 < 2251799813685504 from ⟨y4, by omega⟩)
  have p2 := mul_bd (show 0 ≤ a1 ∧ a1 < 2251799813685504 from ⟨x1, by omega⟩) (show 0 ≤ b3 ∧ b3 < 2251799813685504 from ⟨y3, by omega⟩)
  have p3 := mul_bd (show 0 ≤ a2 ∧ a2 < 2251799813685504 from ⟨x2, by omega⟩) (show 0 ≤ b2 ∧ b2 < 2251799813685504 from ⟨y2, by omega⟩)
  have p4 := mul_bd (show 0 ≤ a3 ∧ a3 < 2251799813685504 from ⟨x3, by omega⟩) (show 0 ≤ b1 ∧ b1 < 2251799813685504 from ⟨y1, by omega⟩)
  have p5 := mul_bd (show 0 ≤ a4 ∧ a4 < 2251799813685504 from ⟨x4, by omega⟩) y0
  rw [e]; omega
/-- the five sums hold the columns behind n pairs -/
def Acc (a0 a1 a2 a3 a4 b0 b1 b2 b3 b4 : Int) (n : Nat) (h0 l0 h1 l1 h2 l2 h3 l3 h4 l4 : Int) : Prop :=
  ((0 ≤ h0 ∧ h0 < 18446744073709551616) ∧ (0 ≤ l0 ∧ l0 < 18446744073709551616) ∧ 18446744073709551616 * h0 + l0 = col a0 a1 a2 a3 a4 b0 b1 b2 b3 b4 0 n) ∧
  ((0 ≤ h1 ∧ h1 < 18446744073709551616) ∧ (0 ≤ l1 ∧ l1 < 18446744073709551616) ∧ 18446744073709551616 * h1 + l1 = col a0 a1 a2 a3 a4 b0 b1 b2 b3 b4 1 n) ∧
  ((0 ≤ h2 ∧ h2 < 18446744073709551616) ∧ (0 ≤ l2 ∧ l2 < 18446744073709551616) ∧ 18446744073709551616 * h2 + l2 = col a0 a1 a2 a3 a4 b0 b1 b2 b3 b4 2 n) ∧
  ((0 ≤ h3 ∧ h3 < 18446744073709551616) ∧ (0 ≤ l3 ∧ l3 < 18446744073709551616) ∧ 18446744073709551616 * h3 + l3 = col a0 a1 a2 a3 a4 b0 b1 b2 b3 b4 3 n) ∧
  ((0 ≤ h4 ∧ h4 < 18446744073709551616) ∧ (0 ≤ l4 ∧ l4 < 18446744073709551616) ∧ 18446744073709551616 * h4 + l4 = col a0 a1 a2 a3 a4 b0 b1 b2 b3 b4 4 n)
theorem acc_zero (a0 a1 a2 a3 a4 b0 b1 b2 b3 b4 : Int) : Acc a0 a1 a2 a3 a4 b0 b1 b2 b3 b4 0 0 0 0 0 0 0 0 0 0 0 := by simp [Acc, col]
theorem acc_0 {a0 a1 a2 a3 a4 b0 b1 b2 b3 b4 h0 l0 h1 l1 h2 l2 h3 l3 h4 l4 h l : Int} (A : Acc a0 a1 a2 a3 a4 b0 b1 b2 b3 b4 0 h0 l0 h1 l1 h2 l2 h3 l3 h4 l4) (hh : 0 ≤ h ∧ h < 18446744073709551616) (ll : 0 ≤ l ∧ l < 18446744073709551616) (e : 18446744073709551616 * h + l = 18446744073709551616 * h0 + l0 + a0 * b0) : Acc a0 a1 a2 a3 a4 b0 b1 b2 b3 b4 1 h l h1 l1 h2 l2 h3 l3 h4 l4 := by
  obtain ⟨⟨p0, q0, e0⟩, ⟨p1, q1, e1⟩, ⟨p2, q2, e2⟩, ⟨p3, q3, e3⟩, ⟨p4, q4, e4⟩⟩ := A
  exact ⟨⟨hh, ll, by rw [e, e0]; rfl⟩, ⟨p1, q1, by rw [e1]; simp [col, term]⟩, ⟨p2, q2, by rw [e2]; simp [col, term]⟩, ⟨p3, q3, by rw [e3]; simp [col, term]⟩, ⟨p4, q4, by rw [e4]; simp [col, term]⟩⟩
theorem room_0 {a0 a1 a2 a3 a4 b0 b1 b2 b3 b4 h0 l0 h1 l1 h2 l2 h3 l3 h4 l4 : Int} (ha : Car a0 a1 a2 a3 a4) (hb : Car b0 b1 b2 b3 b4) (A : Acc a0 a1 a2 a3 a4 b0 b1 b2 b3 b4 0 h0 l0 h1 l1 h2 l2 h3 l3 h4 l4) : (0 ≤ h0 ∧ h0 < 18446744073709551616) ∧ (0 ≤ l0 ∧ l0 < 18446744073709551616) ∧ 18446744073709551616 * h0 + l0 + a0 * b0 < 340282366920938463463374607431768211456 := by
  obtain ⟨⟨p0, q0, e0⟩, ⟨p1, q1, e1⟩, ⟨p2, q2, e2⟩, ⟨p3, q3, e3⟩, ⟨p4, q4, e4⟩⟩ := A
  refine ⟨p0, q0, ?_⟩
  have c := col_bd ha hb 0 1
  have e : col a0 a1 a2 a3 a4 b0 b1 b2 b3 b4 0 1 = col a0 a1 a2 a3 a4 b0 b1 b2 b3 b4 0 0 + a0 * b0 := rfl
  omega
theorem acc_1 {a0 a1 a2 a3 a4 b0 b1 b2 b3 b4 h0 l0 h1 l1 h2 l2 h3 l3 h4 l4 h l : Int} (A : Acc a0 a1 a2 a3 a4 b0 b1 b2 b3 b4 1 h0 l0 h1 l1 h2 l2 h3 l3 h4 l4) (hh : 0 ≤ h ∧ h < 18446744073709551616) (ll : 0 ≤ l ∧ l < 18446744073709551616) (e : 18446744073709551616 * h + l = 18446744073709551616 * h1 + l1 + a0 * b1) : Acc a0 a1 a2 a3 a4 b0 b1 b2 b3 b4 2 h0 l0 h l h2 l2 h3 l3 h4 l4 := by
  obtain ⟨⟨p0, q0, e0⟩, ⟨p1, q1, e1⟩, ⟨p2, q2, e2⟩, ⟨p3, q3, e3⟩, ⟨p4, q4, e4⟩⟩ := A
  exact ⟨⟨p0, q0, by rw [e0]; simp [col, term]⟩, ⟨hh, ll, by rw [e, e1]; rfl⟩, ⟨p2, q2, by rw [e2]; simp [col, term]⟩, ⟨p3, q3, by rw [e3]; simp [col, term]⟩, ⟨p4, q4, by rw [e4]; simp [col, term]⟩⟩
theorem room_1 {a0 a1 a2 a3 a4 b0 b1 b2 b3 b4 h0 l0 h1 l1 h2 l2 h3 l3 h4 l4 : Int} (ha : Car a0 a1 a2 a3 a4) (hb : Car b0 b1 b2 b3 b4) (A : Acc a0 a1 a2 a3 a4 b0 b1 b2 b3 b4 1 h0 l0 h1 l1 h2 l2 h3 l3 h4 l4) : (0 ≤ h1 ∧ h1 < 18446744073709551616) ∧ (0 ≤ l1 ∧ l1 < 18446744073709551616) ∧ 18446744073709551616 * h1 + l1 + a0 * b1 < 340282366920938463463374607431768211456 := by
  obtain ⟨⟨p0, q0, e0⟩, ⟨p1, q1, e1⟩, ⟨p2, q2, e2⟩, ⟨p3, q3, e3⟩, ⟨p4, q4, e4⟩⟩ := A
  refine ⟨p1, q1, ?_⟩
  have c := col_bd ha hb 1 2
  have e : col a0 a1 a2 a3 a4 b0 b1 b2 b3 b4 1 2 = col a0 a1 a2 a3 a4 b0 b1 b2 b3 b4 1 1 + a0 * b1 := rfl
  omega
theorem acc_2 {a0 a1 a2 a3 a4 b0 b1 b2 b3 b4 h0 l0 h1 l1 h2 l2 h3 l3 h4 l4 h l : Int} (A : Acc a0 a1 a2 a3 a4 b0 b1 b2 b3 b4 2 h0 l0 h1 l1 h2 l2 h3 l3 h4 l4) (hh : 0 ≤ h ∧ h < 18446744073709551616) (ll : 0 ≤ l ∧ l < 18446744073709551616) (e : 18446744073709551616 * h + l = 18446744073709551616 * h2 + l2 + a0 * b2) : Acc a0 a1 a2 a3 a4 b0 b1 b2 b3 b4 3 h0 l0 h1 l1 h l h3 l3 h4 l4 := by
  obtain ⟨⟨p0, q0, e0⟩, ⟨p1, q1, e1⟩, ⟨p2, q2, e2⟩, ⟨p3, q3, e3⟩, ⟨p4, q4, e4⟩⟩ := A
  exact ⟨⟨p0, q0, by rw [e0]; simp [col, term]⟩, ⟨p1, q1, by rw [e1]; simp [col, term]⟩, ⟨hh, ll, by rw [e, e2]; rfl⟩, ⟨p3, q3, by rw [e3]; simp [col, term]⟩, ⟨p4, q4, by rw [e4]; simp [col, term]⟩⟩
theorem room_2 {a0 a1 a2 a3 a4 b0 b1 b2 b3 b4 h0 l0 h1 l1 h2 l2 h3 l3 h4 l4 : Int} (ha : Car a0 a1 a2 a3 a4) (hb : Car b0 b1 b2 b3 b4) (A : Acc a0 a1 a2 a3 a4 b0 b1 b2 b3 b4 2 h0 l0 h1 l1 h2 l2 h3 l3 h4 l4) : (0 ≤ h2 ∧ h2 < 18446744073709551616) ∧ (0 ≤ l2 ∧ l2 < 18446744073709551616) ∧ 18446744073709551616 * h2 + l2 + a0 * b2 < 340282366920938463463374607431768211456 := by
  obtain ⟨⟨p0, q0, e0⟩, ⟨p1, q1, e1⟩, ⟨p2, q2, e2⟩, ⟨p3, q3, e3⟩, ⟨p4, q4, e4⟩⟩ := A
  refine ⟨p2, q2, ?_⟩
  have c := col_bd ha hb 2 3
  have e : col a0 a1 a2 a3 a4 b0 b1 b2 b3 b4 2 3 = col a0 a1 a2 a3 a4 b0 b1 b2 b3 b4 2 2 + a0 * b2 := rfl
  omega
theorem acc_3 {a0 a1 a2 a3 a4 b0 b1 b2 b3 b4 h0 l0 h1 l1 h2 l2 h3 l3 h4 l4 h l : Int} (A : Acc a0 a1 a2 a3 a4 b0 b1 b2 b3 b4 3 h0 l0 h1 l1 h2 l2 h3 l3 h4 l4) (hh : 0 ≤ h ∧ h < 18446744073709551616) (ll : 0 ≤ l ∧ l < 18446744073709551616) (e : 18446744073709551616 * h + l = 18446744073709551616 * h3 + l3 + a0 * b3) : Acc a0 a1 a2 a3 a4 b0 b1 b2 b3 b4 4 h0 l0 h1 l1 h2 l2 h l h4 l4 := by
  obtain ⟨⟨p0, q0, e0⟩, ⟨p1, q1, e1⟩, ⟨p2, q2, e2⟩, ⟨p3, q3, e3⟩, ⟨p4, q4, e4⟩⟩ := A
  exact ⟨⟨p0, q0, by rw [e0]; simp [col, term]⟩, ⟨p1, q1, by rw [e1]; simp [col, term]⟩, ⟨p2, q2, by rw [e2]; simp [col, term]⟩, ⟨hh, ll, by rw [e, e3]; rfl⟩, ⟨p4, q4, by rw [e4]; simp [col, term]⟩⟩
theorem room_3 {a0 a1 a2 a3 a4 b0 b1 b2 b3 b4 h0 l0 h1 l1 h2 l2 h3 l3 h4 l4 : Int} (ha : Car a0 a1 a2 a3 a4) (hb : Car b0 b1 b2 b3 b4) (A : Acc a0 a1 a2 a3 a4 b0 b1 b2 b3 b4 3 h0 l0 h1 l1 h2 l2 h3 l3 h4 l4) : (0 ≤ h3 ∧ h3 < 18446744073709551616) ∧ (0 ≤ l3 ∧ l3 < 18446744073709551616) ∧ 18446744073709551616 * h3 + l3 + a0 * b3 < 340282366920938463463374607431768211456 := by
  obtain ⟨⟨p0, q0, e0⟩, ⟨p1, q1, e1⟩, ⟨p2, q2, e2⟩, ⟨p3, q3, e3⟩, ⟨p4, q4, e4⟩⟩ := A
  refine ⟨p3, q3, ?_⟩
  have c := col_bd ha hb 3 4
  have e : col a0 a1 a2 a3 a4 b0 b1 b2 b3 b4 3 4 = col a0 a1 a2 a3 a4 b0 b1 b2 b3 b4 3 3 + a0 * b3 := rfl
  omega
theorem acc_4 {a0 a1 a2 a3 a4 b0 b1 b2 b3 b4 h0 l0 h1 l1 h2 l2 h3 l3 h4 l4 h l : Int} (A : Acc a0 a1 a2 a3 a4 b0 b1 b2 b3 b4 4 h0 l0 h1 l1 h2 l2 h3 l3 h4 l4) (hh : 0 ≤ h ∧ h < 18446744073709551616) (ll : 0 ≤ l ∧ l < 18446744073709551616) (e : 18446744073709551616 * h + l = 18446744073709551616 * h4 + l4 + a0 * b4) : Acc a0 a1 a2 a3 a4 b0 b1 b2 b3 b4 5 h0 l0 h1 l1 h2 l2 h3 l3 h l := by
  obtain ⟨⟨p0, q0, e0⟩, ⟨p1, q1, e1⟩, ⟨p2, q2, e2⟩, ⟨p3, q3, e3⟩, ⟨p4, q4, e4⟩⟩ := A
  exact ⟨⟨p0, q0, by rw [e0]; simp [col, term]⟩, ⟨p1, q1, by rw [e1]; simp [col, term]⟩, ⟨p2, q2, by rw [e2]; simp [col, term]⟩, ⟨p3, q3, by rw [e3]; simp [col, term]⟩, ⟨hh, ll, by rw [e, e4]; rfl⟩⟩
theorem room_4 {a0 a1 a2 a3 a4 b0 b1 b2 b3 b4 h0 l0 h1 l1 h2 l2 h3 l3 h4 l4 : Int} (ha : Car a0 a1 a2 a3 a4) (hb : Car b0 b1 b2 b3 b4) (A : Acc a0 a1 a2 a3 a4 b0 b1 b2 b3 b4 4 h0 l0 h1 l1 h2 l2 h3 l3 h4 l4) : (0 ≤ h4 ∧ h4 < 18446744073709551616) ∧ (0 ≤ l4 ∧ l4 < 18446744073709551616) ∧ 18446744073709551616 * h4 + l4 + a0 * b4 < 340282366920938463463374607431768211456 := by
  obtain ⟨⟨p0, q0, e0⟩, ⟨p1, q1, e1⟩, ⟨p2, q2, e2⟩, ⟨p3, q3, e3⟩, ⟨p4, q4, e4⟩⟩ := A
  refine ⟨p4, q4, ?_⟩
  have c := col_bd ha hb 4 5
  have e : col a0 a1 a2 a3 a4 b0 b1 b2 b3 b4 4 5 = col a0 a1 a2 a3 a4 b0 b1 b2 b3 b4 4 4 + a0 * b4 := rfl
  omega
theorem acc_5 {a0 a1 a2 a3 a4 b0 b1 b2 b3 b4 h0 l0 h1 l1 h2 l2 h3 l3 h4 l4 h l : Int} (A : Acc a0 a1 a2 a3 a4 b0 b1 b2 b3 b4 5 h0 l0 h1 l1 h2 l2 h3 l3 h4 l4) (hh : 0 ≤ h ∧ h < 18446744073709551616) (ll : 0 ≤ l ∧ l < 18446744073709551616) (e : 18446744073709551616 * h + l = 18446744073709551616 * h1 + l1 + a1 * b0) : Acc a0 a1 a2 a3 a4 b0 b1 b2 b3 b4 6 h0 l0 h l h2 l2 h3 l3 h4 l4 := by
  obtain ⟨⟨p0, q0, e0⟩, ⟨p1, q1, e1⟩, ⟨p2, q2, e2⟩, ⟨p3, q3, e3⟩, ⟨p4, q4, e4⟩⟩ := A
  exact ⟨⟨p0, q0, by rw [e0]; simp [col, term]⟩, ⟨hh, ll, by rw [e, e1]; rfl⟩, ⟨p2, q2, by rw [e2]; simp [col, term]⟩, ⟨p3, q3, by rw [e3]; simp [col, term]⟩, ⟨p4, q4, by rw [e4]; simp [col, term]⟩⟩
theorem room_5 {a0 a1 a2 a3 a4 b0 b1 b2 b3 b4 h0 l0 h1 l1 h2 l2 h3 l3 h4 l4 : Int} (ha : Car a0 a1 a2 a3 a4) (hb : Car b0 b1 b2 b3 b4) (A : Acc a0 a1 a2 a3 a4 b0 b1 b2 b3 b4 5 h0 l0 h1 l1 h2 l2 h3 l3 h4 l4) : (0 ≤ h1 ∧ h1 < 18446744073709551616) ∧ (0 ≤ l1 ∧ l1 < 18446744073709551616) ∧ 18446744073709551616 * h1 + l1 + a1 * b0 < 340282366920938463463374607431768211456 := by
  obtain ⟨⟨p0, q0, e0⟩, ⟨p1, q1, e1⟩, ⟨p2, q2, e2⟩, ⟨p3, q3, e3⟩, ⟨p4, q4, e4⟩⟩ := A
  refine ⟨p1, q1, ?_⟩
  have c := col_bd ha hb 1 6
  have e : col a0 a1 a2 a3 a4 b0 b1 b2 b3 b4 1 6 = col a0 a1 a2 a3 a4 b0 b1 b2 b3 b4 1 5 + a1 * b0 := rfl
  omega
theorem acc_6 {a0 a1 a2 a3 a4 b0 b1 b2 b3 b4 h0 l0 h1 l1 h2 l2 h3 l3 h4 l4 h l : Int} (A : Acc a0 a1 a2 a3 a4 b0 b1 b2 b3 b4 6 h0 l0 h1 l1 h2 l2 h3 l3 h4 l4) (hh : 0 ≤ h ∧ h < 18446744073709551616) (ll : 0 ≤ l ∧ l < 18446744073709551616) (e : 18446744073709551616 * h + l = 18446744073709551616 * h2 + l2 + a1 * b1) : Acc a0 a1 a2 a3 a4 b0 b1 b2 b3 b4 7 h0 l0 h1 l1 h l h3 l3 h4 l4 := by
  obtain ⟨⟨p0, q0, e0⟩, ⟨p1, q1, e1⟩, ⟨p2, q2, e2⟩, ⟨p3, q3, e3⟩, ⟨p4, q4, e4⟩⟩ := A
  exact ⟨⟨p0, q0, by rw [e0]; simp [col, term]⟩, ⟨p1, q1, by rw [e1]; simp [col, term]⟩, ⟨hh, ll, by rw [e, e2]; rfl⟩, ⟨p3, q3, by rw [e3]; simp [col, term]⟩, ⟨p4, q4, by rw [e4]; simp [col, term]⟩⟩
theorem room_6 {a0 a1 a2 a3 a4 b0 b1 b2 b3 b4 h0 l0 h1 l1 h2 l2 h3 l3 h4 l4 : Int} (ha : Car a0 a1 a2 a3 a4) (hb : Car b0 b1 b2 b3 b4) (A : Acc a0 a1 a2 a3 a4 b0 b1 b2 b3 b4 6 h0 l0 h1 l1 h2 l2 h3 l3 h4 l4) : (0 ≤ h2 ∧ h2 < 18446744073709551616) ∧ (0 ≤ l2 ∧ l2 < 18446744073709551616) ∧ 18446744073709551616 * h2 + l2 + a1 * b1 < 340282366920938463463374607431768211456 := by
  obtain ⟨⟨p0, q0, e0⟩, ⟨p1, q1, e1⟩, ⟨p2, q2, e2⟩, ⟨p3, q3, e3⟩, ⟨p4, q4, e4⟩⟩ := A
  refine ⟨p2, q2, ?_⟩
  have c := col_bd ha hb 2 7
  have e : col a0 a1 a2 a3 a4 b0 b1 b2 b3 b4 2 7 = col a0 a1 a2 a3 a4 b0 b1 b2 b3 b4 2 6 + a1 * b1 := rfl
  omega
theorem acc_7 {a0 a1 a2 a3 a4 b0 b1 b2 b3 b4 h0 l0 h1 l1 h2 l2 h3 l3 h4 l4 h l : Int} (A : Acc a0 a1 a2 a3 a4 b0 b1 b2 b3 b4 7 h0 l0 h1 l1 h2 l2 h3 l3 h4 l4) (hh : 0 ≤ h ∧ h < 18446744073709551616) (ll : 0 ≤ l ∧ l < 18446744073709551616) (e : 18446744073709551616 * h + l = 18446744073709551616 * h3 + l3 + a1 * b2) : Acc a0 a1 a2 a3 a4 b0 b1 b2 b3 b4 8 h0 l0 h1 l1 h2 l2 h l h4 l4 := by
  obtain ⟨⟨p0, q0, e0⟩, ⟨p1, q1, e1⟩, ⟨p2, q2, e2⟩, ⟨p3, q3, e3⟩, ⟨p4, q4, e4⟩⟩ := A
  exact ⟨⟨p0, q0, by rw [e0]; simp [col, term]⟩, ⟨p1, q1, by rw [e1]; simp [col, term]⟩, ⟨p2, q2, by rw [e2]; simp [col, term]⟩, ⟨hh, ll, by rw [e, e3]; rfl⟩, ⟨p4, q4, by rw [e4]; simp [col, term]⟩⟩
theorem room_7 {a0 a1 a2 a3 a4 b0 b1 b2 b3 b4 h0 l0 h1 l1 h2 l2 h3 l3 h4 l4 : Int} (ha : Car a0 a1 a2 a3 a4) (hb : Car b0 b1 b2 b3 b4) (A : Acc a0 a1 a2 a3 a4 b0 b1 b2 b3 b4 7 h0 l0 h1 l1 h2 l2 h3 l3 h4 l4) : (0 ≤ h3 ∧ h3 < 18446744073709551616) ∧ (0 ≤ l3 ∧ l3 < 18446744073709551616) ∧ 18446744073709551616 * h3 + l3 + a1 * b2 < 340282366920938463463374607431768211456 := by
  obtain ⟨⟨p0, q0, e0⟩, ⟨p1, q1, e1⟩, ⟨p2, q2, e2⟩, ⟨p3, q3, e3⟩, ⟨p4, q4, e4⟩⟩ := A
  refine ⟨p3, q3, ?_⟩
  have c := col_bd ha hb 3 8
  have e : col a0 a1 a2 a3 a4 b0 b1 b2 b3 b4 3 8 = col a0 a1 a2 a3 a4 b0 b1 b2 b3 b4 3 7 + a1 * b2 := rfl
  omega
theorem acc_8 {a0 a1 a2 a3 a4 b0 b1 b2 b3 b4 h0 l0 h1 l1 h2 l2 h3 l3 h4 l4 h l : Int} (A : Acc a0 a1 a2 a3 a4 b0 b1 b2 b3 b4 8 h0 l0 h1 l1 h2 l2 h3 l3 h4 l4) (hh : 0 ≤ h ∧ h < 18446744073709551616) (ll : 0 ≤ l ∧ l < 18446744073709551616) (e : 18446744073709551616 * h + l = 18446744073709551616 * h4 + l4 + a1 * b3) : Acc a0 a1 a2 a3 a4 b0 b1 b2 b3 b4 9 h0 l0 h1 l1 h2 l2 h3 l3 h l := by
  obtain ⟨⟨p0, q0, e0⟩, ⟨p1, q1, e1⟩, ⟨p2, q2, e2⟩, ⟨p3, q3, e3⟩, ⟨p4, q4, e4⟩⟩ := A
  exact ⟨⟨p0, q0, by rw [e0]; simp [col, term]⟩, ⟨p1, q1, by rw [e1]; simp [col, term]⟩, ⟨p2, q2, by rw [e2]; simp [col, term]⟩, ⟨p3, q3, by rw [e3]; simp [col, term]⟩, ⟨hh, ll, by rw [e, e4]; rfl⟩⟩
theorem room_8 {a0 a1 a2 a3 a4 b0 b1 b2 b3 b4 h0 l0 h1 l1 h2 l2 h3 l3 h4 l4 : Int} (ha : Car a0 a1 a2 a3 a4) (hb : Car b0 b1 b2 b3 b4) (A : Acc a0 a1 a2 a3 a4 b0 b1 b2 b3 b4 8 h0 l0 h1 l1 h2 l2 h3 l3 h4 l4) : (0 ≤ h4 ∧ h4 < 18446744073709551616) ∧ (0 ≤ l4 ∧ l4 < 18446744073709551616) ∧ 18446744073709551616 * h4 + l4 + a1 * b3 < 340282366920938463463374607431768211456 := by
  obtain ⟨⟨p0, q0, e0⟩, ⟨p1, q1, e1⟩, ⟨p2, q2, e2⟩, ⟨p3, q3, e3⟩, ⟨p4, q4, e4⟩⟩ := A
  refine ⟨p4, q4, ?_⟩
  have c := col_bd ha hb 4 9
  have e : col a0 a1 a2 a3 a4 b0 b1 b2 b3 b4 4 9 = col a0 a1 a2 a3 a4 b0 b1 b2 b3 b4 4 8 + a1 * b3 := rfl
  omega
theorem acc_9 {a0 a1 a2 a3 a4 b0 b1 b2 b3 b4 h0 l0 h1 l1 h2 l2 h3 l3 h4 l4 h l : Int} (A : Acc a0 a1 a2 a3 a4 b0 b1 b2 b3 b4 9 h0 l0 h1 l1 h2 l2 h3 l3 h4 l4) (hh : 0 ≤ h ∧ h < 18446744073709551616) (ll : 0 ≤ l ∧ l < 18446744073709551616) (e : 18446744073709551616 * h + l = 18446744073709551616 * h0 + l0 + a1 * 19 * b4) : Acc a0 a1 a2 a3 a4 b0 b1 b2 b3 b4 10 h l h1 l1 h2 l2 h3 l3 h4 l4 := by
  obtain ⟨⟨p0, q0, e0⟩, ⟨p1, q1, e1⟩, ⟨p2, q2, e2⟩, ⟨p3, q3, e3⟩, ⟨p4, q4, e4⟩⟩ := A
  exact ⟨⟨hh, ll, by rw [e, e0]; rfl⟩, ⟨p1, q1, by rw [e1]; simp [col, term]⟩, ⟨p2, q2, by rw [e2]; simp [col, term]⟩, ⟨p3, q3, by rw [e3]; simp [col, term]⟩, ⟨p4, q4, by rw [e4]; simp [col, term]⟩⟩
theorem room_9 {a0 a1 a2 a3 a4 b0 b1 b2 b3 b4 h0 l0 h1 l1 h2 l2 h3 l3 h4 l4 : Int} (ha : Car a0 a1 a2 a3 a4) (hb : Car b0 b1 b2 b3 b4) (A : Acc a0 a1 a2 a3 a4 b0 b1 b2 b3 b4 9 h0 l0 h1 l1 h2 l2 h3 l3 h4 l4) : (0 ≤ h0 ∧ h0 < 18446744073709551616) ∧ (0 ≤ l0 ∧ l0 < 18446744073709551616) ∧ 18446744073709551616 * h0 + l0 + a1 * 19 * b4 < 340282366920938463463374607431768211456 := by
  obtain ⟨⟨p0, q0, e0⟩, ⟨p1, q1, e1⟩, ⟨p2, q2, e2⟩, ⟨p3, q3, e3⟩, ⟨p4, q4, e4⟩⟩ := A
  refine ⟨p0, q0, ?_⟩
  have c := col_bd ha hb 0 10
  have e : col a0 a1 a2 a3 a4 b0 b1 b2 b3 b4 0 10 = col a0 a1 a2 a3 a4 b0 b1 b2 b3 b4 0 9 + a1 * 19 * b4 := rfl
  omega
theorem acc_10 {a0 a1 a2 a3 a4 b0 b1 b2 b3 b4 h0 l0 h1 l1 h2 l2 h3 l3 h4 l4 h l : Int} (A : Acc a0 a1 a2 a3 a4 b0 b1 b2 b3 b4 10 h0 l0 h1 l1 h2 l2 h3 l3 h4 l4) (hh : 0 ≤ h ∧ h < 18446744073709551616) (ll : 0 ≤ l ∧ l < 18446744073709551616) (e : 18446744073709551616 * h + l = 18446744073709551616 * h2 + l2 + a2 * b0) : Acc a0 a1 a2 a3 a4 b0 b1 b2 b3 b4 11 h0 l0 h1 l1 h l h3 l3 h4 l4 := by
  obtain ⟨⟨p0, q0, e0⟩, ⟨p1, q1, e1⟩, ⟨p2, q2, e2⟩, ⟨p3, q3, e3⟩, ⟨p4, q4, e4⟩⟩ := A
  exact ⟨⟨p0, q0, by rw [e0]; simp [col, term]⟩, ⟨p1, q1, by rw [e1]; simp [col, term]⟩, ⟨hh, ll, by rw [e, e2]; rfl⟩, ⟨p3, q3, by rw [e3]; simp [col, term]⟩, ⟨p4, q4, by rw [e4]; simp [col, term]⟩⟩
theorem room_10 {a0 a1 a2 a3 a4 b0 b1 b2 b3 b4 h0 l0 h1 l1 h2 l2 h3 l3 h4 l4 : Int} (ha : Car a0 a1 a2 a3 a4) (hb : Car b0 b1 b2 b3 b4) (A : Acc a0 a1 a2 a3 a4 b0 b1 b2 b3 b4 10 h0 l0 h1 l1 h2 l2 h3 l3 h4 l4) : (0 ≤ h2 ∧ h2 < 18446744073709551616) ∧ (0 ≤ l2 ∧ l2 < 18446744073709551616) ∧ 18446744073709551616 * h2 + l2 + a2 * b0 < 340282366920938463463374607431768211456 := by
  obtain ⟨⟨p0, q0, e0⟩, ⟨p1, q1, e1⟩, ⟨p2, q2, e2⟩, ⟨p3, q3, e3⟩, ⟨p4, q4, e4⟩⟩ := A
  refine ⟨p2, q2, ?_⟩
  have c := col_bd ha hb 2 11
  have e : col a0 a1 a2 a3 a4 b0 b1 b2 b3 b4 2 11 = col a0 a1 a2 a3 a4 b0 b1 b2 b3 b4 2 10 + a2 * b0 := rfl
  omega
theorem acc_11 {a0 a1 a2 a3 a4 b0 b1 b2 b3 b4 h0 l0 h1 l1 h2 l2 h3 l3 h4 l4 h l : Int} (A : Acc a0 a1 a2 a3 a4 b0 b1 b2 b3 b4 11 h0 l0 h1 l1 h2 l2 h3 l3 h4 l4) (hh : 0 ≤ h ∧ h < 18446744073709551616) (ll : 0 ≤ l ∧ l < 18446744073709551616) (e : 18446744073709551616 * h + l = 18446744073709551616 * h3 + l3 + a2 * b1) : Acc a0 a1 a2 a3 a4 b0 b1 b2 b3 b4 12 h0 l0 h1 l1 h2 l2 h l h4 l4 := by
  obtain ⟨⟨p0, q0, e0⟩, ⟨p1, q1, e1⟩, ⟨p2, q2, e2⟩, ⟨p3, q3, e3⟩, ⟨p4, q4, e4⟩⟩ := A
  exact ⟨⟨p0, q0, by rw [e0]; simp [col, term]⟩, ⟨p1, q1, by rw [e1]; simp [col, term]⟩, ⟨p2, q2, by rw [e2]; simp [col, term]⟩, ⟨hh, ll, by rw [e, e3]; rfl⟩, ⟨p4, q4, by rw [e4]; simp [col, term]⟩⟩
theorem room_11 {a0 a1 a2 a3 a4 b0 b1 b2 b3 b4 h0 l0 h1 l1 h2 l2 h3 l3 h4 l4 : Int} (ha : Car a0 a1 a2 a3 a4) (hb : Car b0 b1 b2 b3 b4) (A : Acc a0 a1 a2 a3 a4 b0 b1 b2 b3 b4 11 h0 l0 h1 l1 h2 l2 h3 l3 h4 l4) : (0 ≤ h3 ∧ h3 < 18446744073709551616) ∧ (0 ≤ l3 ∧ l3 < 18446744073709551616) ∧ 18446744073709551616 * h3 + l3 + a2 * b1 < 340282366920938463463374607431768211456 := by
  obtain ⟨⟨p0, q0, e0⟩, ⟨p1, q1, e1⟩, ⟨p2, q2, e2⟩, ⟨p3, q3, e3⟩, ⟨p4, q4, e4⟩⟩ := A
  refine ⟨p3, q3, ?_⟩
  have c := col_bd ha hb 3 12
  have e : col a0 a1 a2 a3 a4 b0 b1 b2 b3 b4 3 12 = col a0 a1 a2 a3 a4 b0 b1 b2 b3 b4 3 11 + a2 * b1 := rfl
  omega
theorem acc_12 {a0 a1 a2 a3 a4 b0 b1 b2 b3 b4 h0 l0 h1 l1 h2 l2 h3 l3 h4 l4 h l : Int} (A : Acc a0 a1 a2 a3 a4 b0 b1 b2 b3 b4 12 h0 l0 h1 l1 h2 l2 h3 l3 h4 l4) (hh : 0 ≤ h ∧ h < 18446744073709551616) (ll : 0 ≤ l ∧ l < 18446744073709551616) (e : 18446744073709551616 * h + l = 18446744073709551616 * h4 + l4 + a2 * b2) : Acc a0 a1 a2 a3 a4 b0 b1 b2 b3 b4 13 h0 l0 h1 l1 h2 l2 h3 l3 h l := by
  obtain ⟨⟨p0, q0, e0⟩, ⟨p1, q1, e1⟩, ⟨p2, q2, e2⟩, ⟨p3, q3, e3⟩, ⟨p4, q4, e4⟩⟩ := A
  exact ⟨⟨p0, q0, by rw [e0]; simp [col, term]⟩, ⟨p1, q1, by rw [e1]; simp [col, term]⟩, ⟨p2, q2, by rw [e2]; simp [col, term]⟩, ⟨p3, q3, by rw [e3]; simp [col, term]⟩, ⟨hh, ll, by rw [e, e4]; rfl⟩⟩
theorem room_12 {a0 a1 a2 a3 a4 b0 b1 b2 b3 b4 h0 l0 h1 l1 h2 l2 h3 l3 h4 l4 : Int} (ha : Car a0 a1 a2 a3 a4) (hb : Car b0 b1 b2 b3 b4) (A : Acc a0 a1 a2 a3 a4 b0 b1 b2 b3 b4 12 h0 l0 h1 l1 h2 l2 h3 l3 h4 l4) : (0 ≤ h4 ∧ h4 < 18446744073709551616) ∧ (0 ≤ l4 ∧ l4 < 18446744073709551616) ∧ 18446744073709551616 * h4 + l4 + a2 * b2 < 340282366920938463463374607431768211456 := by
  obtain ⟨⟨p0, q0, e0⟩, ⟨p1, q1, e1⟩, ⟨p2, q2, e2⟩, ⟨p3, q3, e3⟩, ⟨p4, q4, e4⟩⟩ := A
  refine ⟨p4, q4, ?_⟩
  have c := col_bd ha hb 4 13
  have e : col a0 a1 a2 a3 a4 b0 b1 b2 b3 b4 4 13 = col a0 a1 a2 a3 a4 b0 b1 b2 b3 b4 4 12 + a2 * b2 := rfl
  omega
theorem acc_13 {a0 a1 a2 a3 a4 b0 b1 b2 b3 b4 h0 l0 h1 l1 h2 l2 h3 l3 h4 l4 h l : Int} (A : Acc a0 a1 a2 a3 a4 b0 b1 b2 b3 b4 13 h0 l0 h1 l1 h2 l2 h3 l3 h4 l4) (hh : 0 ≤ h ∧ h < 18446744073709551616) (ll : 0 ≤ l ∧ l < 18446744073709551616) (e : 18446744073709551616 * h + l = 18446744073709551616 * h0 + l0 + a2 * 19 * b3) : Acc a0 a1 a2 a3 a4 b0 b1 b2 b3 b4 14 h l h1 l1 h2 l2 h3 l3 h4 l4 := by
  obtain ⟨⟨p0, q0, e0⟩, ⟨p1, q1, e1⟩, ⟨p2, q2, e2⟩, ⟨p3, q3, e3⟩, ⟨p4, q4, e4⟩⟩ := A
  exact ⟨⟨hh, ll, by rw [e, e0]; rfl⟩, ⟨p1, q1, by rw [e1]; simp [col, term]⟩, ⟨p2, q2, by rw [e2]; simp [col, term]⟩, ⟨p3, q3, by rw [e3]; simp [col, term]⟩, ⟨p4, q4, by rw [e4]; simp [col, term]⟩⟩
theorem room_13 {a0 a1 a2 a3 a4 b0 b1 b2 b3 b4 h0 l0 h1 l1 h2 l2 h3 l3 h4 l4 : Int} (ha : Car a0 a1 a2 a3 a4) (hb : Car b0 b1 b2 b3 b4) (A : Acc a0 a1 a2 a3 a4 b0 b1 b2 b3 b4 13 h0 l0 h1 l1 h2 l2 h3 l3 h4 l4) : (0 ≤ h0 ∧ h0 < 18446744073709551616) ∧ (0 ≤ l0 ∧ l0 < 18446744073709551616) ∧ 18446744073709551616 * h0 + l0 + a2 * 19 * b3 < 340282366920938463463374607431768211456 := by
  obtain ⟨⟨p0, q0, e0⟩, ⟨p1, q1, e1⟩, ⟨p2, q2, e2⟩, ⟨p3, q3, e3⟩, ⟨p4, q4, e4⟩⟩ := A
  refine ⟨p0, q0, ?_⟩
  have c := col_bd ha hb 0 14
  have e : col a0 a1 a2 a3 a4 b0 b1 b2 b3 b4 0 14 = col a0 a1 a2 a3 a4 b0 b1 b2 b3 b4 0 13 + a2 * 19 * b3 := rfl
  omega
theorem acc_14 {a0 a1 a2 a3 a4 b0 b1 b2 b3 b4 h0 l0 h1 l1 h2 l2 h3 l3 h4 l4 h l : Int} (A : Acc a0 a1 a2 a3 a4 b0 b1 b2 b3 b4 14 h0 l0 h1 l1 h2 l2 h3 l3 h4 l4) (hh : 0 ≤ h ∧ h < 18446744073709551616) (ll : 0 ≤ l ∧ l < 18446744073709551616) (e : 18446744073709551616 * h + l = 18446744073709551616 * h1 + l1 + a2 * 19 * b4) : Acc a0 a1 a2 a3 a4 b0 b1 b2 b3 b4 15 h0 l0 h l h2 l2 h3 l3 h4 l4 := by
  obtain ⟨⟨p0, q0, e0⟩, ⟨p1, q1, e1⟩, ⟨p2, q2, e2⟩, ⟨p3, q3, e3⟩, ⟨p4, q4, e4⟩⟩ := A
  exact ⟨⟨p0, q0, by rw [e0]; simp [col, term]⟩, ⟨hh, ll, by rw [e, e1]; rfl⟩, ⟨p2, q2, by rw [e2]; simp [col, term]⟩, ⟨p3, q3, by rw [e3]; simp [col, term]⟩, ⟨p4, q4, by rw [e4]; simp [col, term]⟩⟩
theorem room_14 {a0 a1 a2 a3 a4 b0 b1 b2 b3 b4 h0 l0 h1 l1 h2 l2 h3 l3 h4 l4 : Int} (ha : Car a0 a1 a2 a3 a4) (hb : Car b0 b1 b2 b3 b4) (A : Acc a0 a1 a2 a3 a4 b0 b1 b2 b3 b4 14 h0 l0 h1 l1 h2 l2 h3 l3 h4 l4) : (0 ≤ h1 ∧ h1 < 18446744073709551616) ∧ (0 ≤ l1 ∧ l1 < 18446744073709551616) ∧ 18446744073709551616 * h1 + l1 + a2 * 19 * b4 < 340282366920938463463374607431768211456 := by
  obtain ⟨⟨p0, q0, e0⟩, ⟨p1, q1, e1⟩, ⟨p2, q2, e2⟩, ⟨p3, q3, e3⟩, ⟨p4, q4, e4⟩⟩ := A
  refine ⟨p1, q1, ?_⟩
  have c := col_bd ha hb 1 15
  have e : col a0 a1 a2 a3 a4 b0 b1 b2 b3 b4 1 15 = col a0 a1 a2 a3 a4 b0 b1 b2 b3 b4 1 14 + a2 * 19 * b4 := rfl
  omega
theorem acc_15 {a0 a1 a2 a3 a4 b0 b1 b2 b3 b4 h0 l0 h1 l1 h2 l2 h3 l3 h4 l4 h l : Int} (A : Acc a0 a1 a2 a3 a4 b0 b1 b2 b3 b4 15 h0 l0 h1 l1 h2 l2 h3 l3 h4 l4) (hh : 0 ≤ h ∧ h < 18446744073709551616) (ll : 0 ≤ l ∧ l < 18446744073709551616) (e : 18446744073709551616 * h + l = 18446744073709551616 * h3 + l3 + a3 * b0) : Acc a0 a1 a2 a3 a4 b0 b1 b2 b3 b4 16 h0 l0 h1 l1 h2 l2 h l h4 l4 := by
  obtain ⟨⟨p0, q0, e0⟩, ⟨p1, q1, e1⟩, ⟨p2, q2, e2⟩, ⟨p3, q3, e3⟩, ⟨p4, q4, e4⟩⟩ := A
  exact ⟨⟨p0, q0, by rw [e0]; simp [col, term]⟩, ⟨p1, q1, by rw [e1]; simp [col, term]⟩, ⟨p2, q2, by rw [e2]; simp [col, term]⟩, ⟨hh, ll, by rw [e, e3]; rfl⟩, ⟨p4, q4, by rw [e4]; simp [col, term]⟩⟩
theorem room_15 {a0 a1 a2 a3 a4 b0 b1 b2 b3 b4 h0 l0 h1 l1 h2 l2 h3 l3 h4 l4 : Int} (ha : Car a0 a1 a2 a3 a4) (hb : Car b0 b1 b2 b3 b4) (A : Acc a0 a1 a2 a3 a4 b0 b1 b2 b3 b4 15 h0 l0 h1 l1 h2 l2 h3 l3 h4 l4) : (0 ≤ h3 ∧ h3 < 18446744073709551616) ∧ (0 ≤ l3 ∧ l3 < 18446744073709551616) ∧ 18446744073709551616 * h3 + l3 + a3 * b0 < 340282366920938463463374607431768211456 := by
  obtain ⟨⟨p0, q0, e0⟩, ⟨p1, q1, e1⟩, ⟨p2, q2, e2⟩, ⟨p3, q3, e3⟩, ⟨p4, q4, e4⟩⟩ := A
  refine ⟨p3, q3, ?_⟩
  have c := col_bd ha hb 3 16
  have e : col a0 a1 a2 a3 a4 b0 b1 b2 b3 b4 3 16 = col a0 a1 a2 a3 a4 b0 b1 b2 b3 b4 3 15 + a3 * b0 := rfl
  omega
theorem acc_16 {a0 a1 a2 a3 a4 b0 b1 b2 b3 b4 h0 l0 h1 l1 h2 l2 h3 l3 h4 l4 h l : Int} (A : Acc a0 a1 a2 a3 a4 b0 b1 b2 b3 b4 16 h0 l0 h1 l1 h2 l2 h3 l3 h4 l4) (hh : 0 ≤ h ∧ h < 18446744073709551616) (ll : 0 ≤ l ∧ l < 18446744073709551616) (e : 18446744073709551616 * h + l = 18446744073709551616 * h4 + l4 + a3 * b1) : Acc a0 a1 a2 a3 a4 b0 b1 b2 b3 b4 17 h0 l0 h1 l1 h2 l2 h3 l3 h l := by
  obtain ⟨⟨p0, q0, e0⟩, ⟨p1, q1, e1⟩, ⟨p2, q2, e2⟩, ⟨p3, q3, e3⟩, ⟨p4, q4, e4⟩⟩ := A
  exact ⟨⟨p0, q0, by rw [e0]; simp [col, term]⟩, ⟨p1, q1, by rw [e1]; simp [col, term]⟩, ⟨p2, q2, by rw [e2]; simp [col, term]⟩, ⟨p3, q3, by rw [e3]; simp [col, term]⟩, ⟨hh, ll, by rw [e, e4]; rfl⟩⟩
theorem room_16 {a0 a1 a2 a3 a4 b0 b1 b2 b3 b4 h0 l0 h1 l1 h2 l2 h3 l3 h4 l4 : Int} (ha : Car a0 a1 a2 a3 a4) (hb : Car b0 b1 b2 b3 b4) (A : Acc a0 a1 a2 a3 a4 b0 b1 b2 b3 b4 16 h0 l0 h1 l1 h2 l2 h3 l3 h4 l4) : (0 ≤ h4 ∧ h4 < 18446744073709551616) ∧ (0 ≤ l4 ∧ l4 < 18446744073709551616) ∧ 18446744073709551616 * h4 + l4 + a3 * b1 < 340282366920938463463374607431768211456 := by
  obtain ⟨⟨p0, q0, e0⟩, ⟨p1, q1, e1⟩, ⟨p2, q2, e2⟩, ⟨p3, q3, e3⟩, ⟨p4, q4, e4⟩⟩ := A
  refine ⟨p4, q4, ?_⟩
  have c := col_bd ha hb 4 17
  have e : col a0 a1 a2 a3 a4 b0 b1 b2 b3 b4 4 17 = col a0 a1 a2 a3 a4 b0 b1 b2 b3 b4 4 16 + a3 * b1 := rfl
  omega
theorem acc_17 {a0 a1 a2 a3 a4 b0 b1 b2 b3 b4 h0 l0 h1 l1 h2 l2 h3 l3 h4 l4 h l : Int} (A : Acc a0 a1 a2 a3 a4 b0 b1 b2 b3 b4 17 h0 l0 h1 l1 h2 l2 h3 l3 h4 l4) (hh : 0 ≤ h ∧ h < 18446744073709551616) (ll : 0 ≤ l ∧ l < 18446744073709551616) (e : 18446744073709551616 * h + l = 18446744073709551616 * h0 + l0 + a3 * 19 * b2) : Acc a0 a1 a2 a3 a4 b0 b1 b2 b3 b4 18 h l h1 l1 h2 l2 h3 l3 h4 l4 := by
  obtain ⟨⟨p0, q0, e0⟩, ⟨p1, q1, e1⟩, ⟨p2, q2, e2⟩, ⟨p3, q3, e3⟩, ⟨p4, q4, e4⟩⟩ := A
  exact ⟨⟨hh, ll, by rw [e, e0]; rfl⟩, ⟨p1, q1, by rw [e1]; simp [col, term]⟩, ⟨p2, q2, by rw [e2]; simp [col, term]⟩, ⟨p3, q3, by rw [e3]; simp [col, term]⟩, ⟨p4, q4, by rw [e4]; simp [col, term]⟩⟩
theorem room_17 {a0 a1 a2 a3 a4 b0 b1 b2 b3 b4 h0 l0 h1 l1 h2 l2 h3 l3 h4 l4 : Int} (ha : Car a0 a1 a2 a3 a4) (hb : Car b0 b1 b2 b3 b4) (A : Acc a0 a1 a2 a3 a4 b0 b1 b2 b3 b4 17 h0 l0 h1 l1 h2 l2 h3 l3 h4 l4) : (0 ≤ h0 ∧ h0 < 18446744073709551616) ∧ (0 ≤ l0 ∧ l0 < 18446744073709551616) ∧ 18446744073709551616 * h0 + l0 + a3 * 19 * b2 < 340282366920938463463374607431768211456 := by
  obtain ⟨⟨p0, q0, e0⟩, ⟨p1, q1, e1⟩, ⟨p2, q2, e2⟩, ⟨p3, q3, e3⟩, ⟨p4, q4, e4⟩⟩ := A
  refine ⟨p0, q0, ?_⟩
  have c := col_bd ha hb 0 18
  have e : col a0 a1 a2 a3 a4 b0 b1 b2 b3 b4 0 18 = col a0 a1 a2 a3 a4 b0 b1 b2 b3 b4 0 17 + a3 * 19 * b2 := rfl
  omega
theorem acc_18 {a0 a1 a2 a3 a4 b0 b1 b2 b3 b4 h0 l0 h1 l1 h2 l2 h3 l3 h4 l4 h l : Int} (A : Acc a0 a1 a2 a3 a4 b0 b1 b2 b3 b4 18 h0 l0 h1 l1 h2 l2 h3 l3 h4 l4) (hh : 0 ≤ h ∧ h < 18446744073709551616) (ll : 0 ≤ l ∧ l < 18446744073709551616) (e : 18446744073709551616 * h + l = 18446744073709551616 * h1 + l1 + a3 * 19 * b3) : Acc a0 a1 a2 a3 a4 b0 b1 b2 b3 b4 19 h0 l0 h l h2 l2 h3 l3 h4 l4 := by
  obtain ⟨⟨p0, q0, e0⟩, ⟨p1, q1, e1⟩, ⟨p2, q2, e2⟩, ⟨p3, q3, e3⟩, ⟨p4, q4, e4⟩⟩ := A
  exact ⟨⟨p0, q0, by rw [e0]; simp [col, term]⟩, ⟨hh, ll, by rw [e, e1]; rfl⟩, ⟨p2, q2, by rw [e2]; simp [col, term]⟩, ⟨p3, q3, by rw [e3]; simp [col, term]⟩, ⟨p4, q4, by rw [e4]; simp [col, term]⟩⟩
theorem room_18 {a0 a1 a2 a3 a4 b0 b1 b2 b3 b4 h0 l0 h1 l1 h2 l2 h3 l3 h4 l4 : Int} (ha : Car a0 a1 a2 a3 a4) (hb : Car b0 b1 b2 b3 b4) (A : Acc a0 a1 a2 a3 a4 b0 b1 b2 b3 b4 18 h0 l0 h1 l1 h2 l2 h3 l3 h4 l4) : (0 ≤ h1 ∧ h1 < 18446744073709551616) ∧ (0 ≤ l1 ∧ l1 < 18446744073709551616) ∧ 18446744073709551616 * h1 + l1 + a3 * 19 * b3 < 340282366920938463463374607431768211456 := by
  obtain ⟨⟨p0, q0, e0⟩, ⟨p1, q1, e1⟩, ⟨p2, q2, e2⟩, ⟨p3, q3, e3⟩, ⟨p4, q4, e4⟩⟩ := A
  refine ⟨p1, q1, ?_⟩
  have c := col_bd ha hb 1 19
  have e : col a0 a1 a2 a3 a4 b0 b1 b2 b3 b4 1 19 = col a0 a1 a2 a3 a4 b0 b1 b2 b3 b4 1 18 + a3 * 19 * b3 := rfl
  omega
theorem acc_19 {a0 a1 a2 a3 a4 b0 b1 b2 b3 b4 h0 l0 h1 l1 h2 l2 h3 l3 h4 l4 h l : Int} (A : Acc a0 a1 a2 a3 a4 b0 b1 b2 b3 b4 19 h0 l0 h1 l1 h2 l2 h3 l3 h4 l4) (hh : 0 ≤ h ∧ h < 18446744073709551616) (ll : 0 ≤ l ∧ l < 18446744073709551616) (e : 18446744073709551616 * h + l = 18446744073709551616 * h2 + l2 + a3 * 19 * b4) : Acc a0 a1 a2 a3 a4 b0 b1 b2 b3 b4 20 h0 l0 h1 l1 h l h3 l3 h4 l4 := by
  obtain ⟨⟨p0, q0, e0⟩, ⟨p1, q1, e1⟩, ⟨p2, q2, e2⟩, ⟨p3, q3, e3⟩, ⟨p4, q4, e4⟩⟩ := A
  exact ⟨⟨p0, q0, by rw [e0]; simp [col, term]⟩, ⟨p1, q1, by rw [e1]; simp [col, term]⟩, ⟨hh, ll, by rw [e, e2]; rfl⟩, ⟨p3, q3, by rw [e3]; simp [col, term]⟩, ⟨p4, q4, by rw [e4]; simp [col, term]⟩⟩
theorem room_19 {a0 a1 a2 a3 a4 b0 b1 b2 b3 b4 h0 l0 h1 l1 h2 l2 h3 l3 h4 l4 : Int} (ha : Car a0 a1 a2 a3 a4) (hb : Car b0 b1 b2 b3 b4) (A : Acc a0 a1 a2 a3 a4 b0 b1 b2 b3 b4 19 h0 l0 h1 l1 h2 l2 h3 l3 h4 l4) : (0 ≤ h2 ∧ h2 < 18446744073709551616) ∧ (0 ≤ l2 ∧ l2 < 18446744073709551616) ∧ 18446744073709551616 * h2 + l2 + a3 * 19 * b4 < 340282366920938463463374607431768211456 := by
  obtain ⟨⟨p0, q0, e0⟩, ⟨p1, q1, e1⟩, ⟨p2, q2, e2⟩, ⟨p3, q3, e3⟩, ⟨p4, q4, e4⟩⟩ := A
  refine ⟨p2, q2, ?_⟩
  have c := col_bd ha hb 2 20
  have e : col a0 a1 a2 a3 a4 b0 b1 b2 b3 b4 2 20 = col a0 a1 a2 a3 a4 b0 b1 b2 b3 b4 2 19 + a3 * 19 * b4 := rfl
  omega
theorem acc_20 {a0 a1 a2 a3 a4 b0 b1 b2 b3 b4 h0 l0 h1 l1 h2 l2 h3 l3 h4 l4 h l : Int} (A : Acc a0 a1 a2 a3 a4 b0 b1 b2 b3 b4 20 h0 l0 h1 l1 h2 l2 h3 l3 h4 l4) (hh : 0 ≤ h ∧ h < 18446744073709551616) (ll : 0 ≤ l ∧ l < 18446744073709551616) (e : 18446744073709551616 * h + l = 18446744073709551616 * h4 + l4 + a4 * b0) : Acc a0 a1 a2 a3 a4 b0 b1 b2 b3 b4 21 h0 l0 h1 l1 h2 l2 h3 l3 h l := by
  obtain ⟨⟨p0, q0, e0⟩, ⟨p1, q1, e1⟩, ⟨p2, q2, e2⟩, ⟨p3, q3, e3⟩, ⟨p4, q4, e4⟩⟩ := A
  exact ⟨⟨p0, q0, by rw [e0]; simp [col, term]⟩, ⟨p1, q1, by rw [e1]; simp [col, term]⟩, ⟨p2, q2, by rw [e2]; simp [col, term]⟩, ⟨p3, q3, by rw [e3]; simp [col, term]⟩, ⟨hh, ll, by rw [e, e4]; rfl⟩⟩
theorem room_20 {a0 a1 a2 a3 a4 b0 b1 b2 b3 b4 h0 l0 h1 l1 h2 l2 h3 l3 h4 l4 : Int} (ha : Car a0 a1 a2 a3 a4) (hb : Car b0 b1 b2 b3 b4) (A : Acc a0 a1 a2 a3 a4 b0 b1 b2 b3 b4 20 h0 l0 h1 l1 h2 l2 h3 l3 h4 l4) : (0 ≤ h4 ∧ h4 < 18446744073709551616) ∧ (0 ≤ l4 ∧ l4 < 18446744073709551616) ∧ 18446744073709551616 * h4 + l4 + a4 * b0 < 340282366920938463463374607431768211456 := by
  obtain ⟨⟨p0, q0, e0⟩, ⟨p1, q1, e1⟩, ⟨p2, q2, e2⟩, ⟨p3, q3, e3⟩, ⟨p4, q4, e4⟩⟩ := A
  refine ⟨p4, q4, ?_⟩
  have c := col_bd ha hb 4 21
  have e : col a0 a1 a2 a3 a4 b0 b1 b2 b3 b4 4 21 = col a0 a1 a2 a3 a4 b0 b1 b2 b3 b4 4 20 + a4 * b0 := rfl
  omega
theorem acc_21 {a0 a1 a2 a3 a4 b0 b1 b2 b3 b4 h0 l0 h1 l1 h2 l2 h3 l3 h4 l4 h l : Int} (A : Acc a0 a1 a2 a3 a4 b0 b1 b2 b3 b4 21 h0 l0 h1 l1 h2 l2 h3 l3 h4 l4) (hh : 0 ≤ h ∧ h < 18446744073709551616) (ll : 0 ≤ l ∧ l < 18446744073709551616) (e : 18446744073709551616 * h + l = 18446744073709551616 * h0 + l0 + a4 * 19 * b1) : Acc a0 a1 a2 a3 a4 b0 b1 b2 b3 b4 22 h l h1 l1 h2 l2 h3 l3 h4 l4 := by
  obtain ⟨⟨p0, q0, e0⟩, ⟨p1, q1, e1⟩, ⟨p2, q2, e2⟩, ⟨p3, q3, e3⟩, ⟨p4, q4, e4⟩⟩ := A
  exact ⟨⟨hh, ll, by rw [e, e0]; rfl⟩, ⟨p1, q1, by rw [e1]; simp [col, term]⟩, ⟨p2, q2, by rw [e2]; simp [col, term]⟩, ⟨p3, q3, by rw [e3]; simp [col, term]⟩, ⟨p4, q4, by rw [e4]; simp [col, term]⟩⟩
theorem room_21 {a0 a1 a2 a3 a4 b0 b1 b2 b3 b4 h0 l0 h1 l1 h2 l2 h3 l3 h4 l4 : Int} (ha : Car a0 a1 a2 a3 a4) (hb : Car b0 b1 b2 b3 b4) (A : Acc a0 a1 a2 a3 a4 b0 b1 b2 b3 b4 21 h0 l0 h1 l1 h2 l2 h3 l3 h4 l4) : (0 ≤ h0 ∧ h0 < 18446744073709551616) ∧ (0 ≤ l0 ∧ l0 < 18446744073709551616) ∧ 18446744073709551616 * h0 + l0 + a4 * 19 * b1 < 340282366920938463463374607431768211456 := by
  obtain ⟨⟨p0, q0, e0⟩, ⟨p1, q1, e1⟩, ⟨p2, q2, e2⟩, ⟨p3, q3, e3⟩, ⟨p4, q4, e4⟩⟩ := A
  refine ⟨p0, q0, ?_⟩
  have c := col_bd ha hb 0 22
  have e : col a0 a1 a2 a3 a4 b0 b1 b2 b3 b4 0 22 = col a0 a1 a2 a3 a4 b0 b1 b2 b3 b4 0 21 + a4 * 19 * b1 := rfl
  omega
theorem acc_22 {a0 a1 a2 a3 a4 b0 b1 b2 b3 b4 h0 l0 h1 l1 h2 l2 h3 l3 h4 l4 h l : Int} (A : Acc a0 a1 a2 a3 a4 b0 b1 b2 b3 b4 22 h0 l0 h1 l1 h2 l2 h3 l3 h4 l4) (hh : 0 ≤ h ∧ h < 18446744073709551616) (ll : 0 ≤ l ∧ l < 18446744073709551616) (e : 18446744073709551616 * h + l = 18446744073709551616 * h1 + l1 + a4 * 19 * b2) : Acc a0 a1 a2 a3 a4 b0 b1 b2 b3 b4 23 h0 l0 h l h2 l2 h3 l3 h4 l4 := by
  obtain ⟨⟨p0, q0, e0⟩, ⟨p1, q1, e1⟩, ⟨p2, q2, e2⟩, ⟨p3, q3, e3⟩, ⟨p4, q4, e4⟩⟩ := A
  exact ⟨⟨p0, q0, by rw [e0]; simp [col, term]⟩, ⟨hh, ll, by rw [e, e1]; rfl⟩, ⟨p2, q2, by rw [e2]; simp [col, term]⟩, ⟨p3, q3, by rw [e3]; simp [col, term]⟩, ⟨p4, q4, by rw [e4]; simp [col, term]⟩⟩
theorem room_22 {a0 a1 a2 a3 a4 b0 b1 b2 b3 b4 h0 l0 h1 l1 h2 l2 h3 l3 h4 l4 : Int} (ha : Car a0 a1 a2 a3 a4) (hb : Car b0 b1 b2 b3 b4) (A : Acc a0 a1 a2 a3 a4 b0 b1 b2 b3 b4 22 h0 l0 h1 l1 h2 l2 h3 l3 h4 l4) : (0 ≤ h1 ∧ h1 < 18446744073709551616) ∧ (0 ≤ l1 ∧ l1 < 18446744073709551616) ∧ 18446744073709551616 * h1 + l1 + a4 * 19 * b2 < 340282366920938463463374607431768211456 := by
  obtain ⟨⟨p0, q0, e0⟩, ⟨p1, q1, e1⟩, ⟨p2, q2, e2⟩, ⟨p3, q3, e3⟩, ⟨p4, q4, e4⟩⟩ := A
  refine ⟨p1, q1, ?_⟩
  have c := col_bd ha hb 1 23
  have e : col a0 a1 a2 a3 a4 b0 b1 b2 b3 b4 1 23 = col a0 a1 a2 a3 a4 b0 b1 b2 b3 b4 1 22 + a4 * 19 * b2 := rfl
  omega
theorem acc_23 {a0 a1 a2 a3 a4 b0 b1 b2 b3 b4 h0 l0 h1 l1 h2 l2 h3 l3 h4 l4 h l : Int} (A : Acc a0 a1 a2 a3 a4 b0 b1 b2 b3 b4 23 h0 l0 h1 l1 h2 l2 h3 l3 h4 l4) (hh : 0 ≤ h ∧ h < 18446744073709551616) (ll : 0 ≤ l ∧ l < 18446744073709551616) (e : 18446744073709551616 * h + l = 18446744073709551616 * h2 + l2 + a4 * 19 * b3) : Acc a0 a1 a2 a3 a4 b0 b1 b2 b3 b4 24 h0 l0 h1 l1 h l h3 l3 h4 l4 := by
  obtain ⟨⟨p0, q0, e0⟩, ⟨p1, q1, e1⟩, ⟨p2, q2, e2⟩, ⟨p3, q3, e3⟩, ⟨p4, q4, e4⟩⟩ := A
  exact ⟨⟨p0, q0, by rw [e0]; simp [col, term]⟩, ⟨p1, q1, by rw [e1]; simp [col, term]⟩, ⟨hh, ll, by rw [e, e2]; rfl⟩, ⟨p3, q3, by rw [e3]; simp [col, term]⟩, ⟨p4, q4, by rw [e4]; simp [col, term]⟩⟩
theorem room_23 {a0 a1 a2 a3 a4 b0 b1 b2 b3 b4 h0 l0 h1 l1 h2 l2 h3 l3 h4 l4 : Int} (ha : Car a0 a1 a2 a3 a4) (hb : Car b0 b1 b2 b3 b4) (A : Acc a0 a1 a2 a3 a4 b0 b1 b2 b3 b4 23 h0 l0 h1 l1 h2 l2 h3 l3 h4 l4) : (0 ≤ h2 ∧ h2 < 18446744073709551616) ∧ (0 ≤ l2 ∧ l2 < 18446744073709551616) ∧ 18446744073709551616 * h2 + l2 + a4 * 19 * b3 < 340282366920938463463374607431768211456 := by
  obtain ⟨⟨p0, q0, e0⟩, ⟨p1, q1, e1⟩, ⟨p2, q2, e2⟩, ⟨p3, q3, e3⟩, ⟨p4, q4, e4⟩⟩ := A
  refine ⟨p2, q2, ?_⟩
  have c := col_bd ha hb 2 24
  have e : col a0 a1 a2 a3 a4 b0 b1 b2 b3 b4 2 24 = col a0 a1 a2 a3 a4 b0 b1 b2 b3 b4 2 23 + a4 * 19 * b3 := rfl
  omega
theorem acc_24 {a0 a1 a2 a3 a4 b0 b1 b2 b3 b4 h0 l0 h1 l1 h2 l2 h3 l3 h4 l4 h l : Int} (A : Acc a0 a1 a2 a3 a4 b0 b1 b2 b3 b4 24 h0 l0 h1 l1 h2 l2 h3 l3 h4 l4) (hh : 0 ≤ h ∧ h < 18446744073709551616) (ll : 0 ≤ l ∧ l < 18446744073709551616) (e : 18446744073709551616 * h + l = 18446744073709551616 * h3 + l3 + a4 * 19 * b4) : Acc a0 a1 a2 a3 a4 b0 b1 b2 b3 b4 25 h0 l0 h1 l1 h2 l2 h l h4 l4 := by
  obtain ⟨⟨p0, q0, e0⟩, ⟨p1, q1, e1⟩, ⟨p2, q2, e2⟩, ⟨p3, q3, e3⟩, ⟨p4, q4, e4⟩⟩ := A
  exact ⟨⟨p0, q0, by rw [e0]; simp [col, term]⟩, ⟨p1, q1, by rw [e1]; simp [col, term]⟩, ⟨p2, q2, by rw [e2]; simp [col, term]⟩, ⟨hh, ll, by rw [e, e3]; rfl⟩, ⟨p4, q4, by rw [e4]; simp [col, term]⟩⟩
theorem room_24 {a0 a1 a2 a3 a4 b0 b1 b2 b3 b4 h0 l0 h1 l1 h2 l2 h3 l3 h4 l4 : Int} (ha : Car a0 a1 a2 a3 a4) (hb : Car b0 b1 b2 b3 b4) (A : Acc a0 a1 a2 a3 a4 b0 b1 b2 b3 b4 24 h0 l0 h1 l1 h2 l2 h3 l3 h4 l4) : (0 ≤ h3 ∧ h3 < 18446744073709551616) ∧ (0 ≤ l3 ∧ l3 < 18446744073709551616) ∧ 18446744073709551616 * h3 + l3 + a4 * 19 * b4 < 340282366920938463463374607431768211456 := by
  obtain ⟨⟨p0, q0, e0⟩, ⟨p1, q1, e1⟩, ⟨p2, q2, e2⟩, ⟨p3, q3, e3⟩, ⟨p4, q4, e4⟩⟩ := A
  refine ⟨p3, q3, ?_⟩
  have c := col_bd ha hb 3 25
  have e : col a0 a1 a2 a3 a4 b0 b1 b2 b3 b4 3 25 = col a0 a1 a2 a3 a4 b0 b1 b2 b3 b4 3 24 + a4 * 19 * b4 := rfl
  omega
end Go.Proofs.Ytncplefjokbbjaa
