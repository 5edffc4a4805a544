/- The contract of a number's decimal text, by the specification: long division of its bytes. -/
import Derived.Test.YtdhjjjoakcmknaaDoorDecL
import Derived.Test.YtdhjjjoakcmknaaDoorRead
import Derived.Test.YtdhjjjoakcmknaaDoorMark
namespace Go.Proofs.YtdhjjjoakcmknaaDoor
open Go.RowKit
set_option maxHeartbeats 4000000
set_option maxRecDepth 20000
def leV : List Int → Int
  | [] => 0
  | x :: xs => x + 256 * leV xs
theorem leV_byteI (s : ByteArray) : leV (byteI s) = (numN s : Int) := by
  unfold byteI numN
  generalize s.data.toList = l
  induction l with
  | nil => rfl
  | cons b l ih => simp only [List.map_cons, leV, leN, ih]; omega
theorem leV_nonneg : ∀ (xs : List Int), (∀ x ∈ xs, 0 ≤ x) → 0 ≤ leV xs
  | [], _ => Int.le_refl _
  | x :: xs, h => by
    have := leV_nonneg xs fun y hy => h y (List.mem_cons_of_mem _ hy)
    have := h x (List.mem_cons_self ..)
    unfold leV; omega
/-- a division under way: the bytes below k are still the number's own, those from k on the quotient's -/
structure Div (bs : List Int) (k : Nat) (q : List Int) (r : Int) (z : Bool) : Prop where
  len : k + q.length = 32
  val : leV (bs.drop k) = 10 * leV q + r
  r0 : 0 ≤ r
  r1 : r < 10
  bd : ∀ x ∈ q, 0 ≤ x ∧ x < 256
  zero : z = decide (leV q = 0)
theorem div_start (bs : List Int) (h : bs.length = 32) : Div bs 32 [] 0 true :=
  ⟨rfl, by rw [List.drop_of_length_le (by omega)]; rfl, by omega, by omega, by simp, rfl⟩
theorem div_next {bs : List Int} {k : Nat} {q : List Int} {r : Int} {z : Bool} (hl : bs.length = 32) (h : Div bs (k + 1) q r z) (b : Int) (hb : bs.getD k 0 = b) (b0 : 0 ≤ b) (b1 : b < 256) :
    Div bs k ((r * 256 + b) / 10 :: q) ((r * 256 + b) % 10) (z && ((r * 256 + b) / 10 == 0)) := by
  have h1 := h.len
  have h2 := h.val
  have h3 := h.r0
  have h4 := h.r1
  have hk : k < bs.length := by omega
  have e : bs.drop k = b :: bs.drop (k + 1) := by
    rw [List.drop_eq_getElem_cons hk, ← hb, List.getD_eq_getElem?_getD, List.getElem?_eq_getElem hk]
    rfl
  have hq := leV_nonneg q fun x hx => (h.bd x hx).1
  refine ⟨by simp; omega, by rw [e]; simp only [leV]; rw [h2]; omega, by omega, by omega, ?_, ?_⟩
  · intro x hx
    rcases List.mem_cons.1 hx with rfl | hx
    · omega
    · exact h.bd x hx
  · rw [h.zero, Bool.eq_iff_iff, Bool.and_eq_true, decide_eq_true_eq, decide_eq_true_eq, beq_iff_eq, leV]
    generalize leV q = L at *
    have hn : 0 ≤ (r * 256 + b) / 10 := by omega
    generalize (r * 256 + b) / 10 = n at *
    constructor
    · intro h; omega
    · intro h; omega
theorem div_end {bs : List Int} {q : List Int} {r : Int} {z : Bool} {m : Nat} (h : Div bs 0 q r z) (hm : leV bs = (m : Int)) : leV q = ((m / 10 : Nat) : Int) ∧ r = ((m % 10 : Nat) : Int) ∧ z = decide (m / 10 = 0) ∧ q.length = 32 := by
  have h2 := h.val
  rw [List.drop_zero, hm] at h2
  have h3 := h.r0
  have h4 := h.r1
  have e1 : leV q = ((m / 10 : Nat) : Int) := by omega
  refine ⟨e1, by omega, ?_, by have := h.len; omega⟩
  rw [h.zero, e1, Bool.eq_iff_iff]
  simp only [decide_eq_true_eq]
  omega
end Go.Proofs.YtdhjjjoakcmknaaDoor
