/- A tag's bit in a part, and its place, both sides. -/
import Derived.Test.YthckgccfjpgbaaaOku
import Derived.Test.YthckgccfjpgbaaaWds
namespace Go.Proofs.Ythckgccfjpgbaaa
open Go.RowKit
set_option maxHeartbeats 4000000
set_option maxRecDepth 20000
/-- a tag's bit in a part of this salt -/
def plc (p wd : Int) (s : Slt) (tag : Int) : Int := (s.1 * tag + s.2) % p % wd
theorem plc_in {p wd : Int} (s : Slt) (tag : Int) (hw : 1 ≤ wd) : 0 ≤ plc p wd s tag ∧ plc p wd s tag < wd :=
  ⟨Int.emod_nonneg _ (by omega), Int.emod_lt_of_pos _ (by omega)⟩
theorem mul_in2 {a t p : Int} (ha : inP p a = true) (ht : inP p t = true) (hp : p ≤ 509) : 0 ≤ a * t ∧ a * t ≤ 258064 := by
  unfold inP at ha ht
  simp only [Bool.and_eq_true, decide_eq_true_eq] at ha ht
  refine ⟨Int.mul_nonneg ha.1 ht.1, ?_⟩
  have := Int.mul_le_mul (show a ≤ 508 by omega) (show t ≤ 508 by omega) ht.1 (by omega)
  omega
theorem inP_is {p n : Int} (h : inP p n = true) : 0 ≤ n ∧ n < p := by
  unfold inP at h
  simpa using h
theorem bit52 (q : Nat) (p wd : Int) (va vb : Value) (a b tag : Int) (w : World) (hq : BC q p wd va vb w) (p2 : 2 ≤ p) (p9 : p ≤ 509) (w1 : 1 ≤ wd) (hs : saltOK p (a, b) = true) (ht : inP p tag = true) :
    Calls Try.prog 52 #[ptr q, saltV (a, b), .int .i64 tag] w fun e w' => e = .returned (.int .i64 (plc p wd (a, b) tag)) ∧ Below w.heap.size w w' := by
  have B1 : Below w.heap.size w (w.alloc (.cells #[.int .i64 a, .int .i64 b] 67)) := bl_al (Below.refl _ _)
  obtain ⟨_, c0, c1, c2, c3⟩ := hq.below B1
  obtain ⟨s0, s1⟩ := sc_new w a b 67
  unfold saltOK at hs
  rw [Bool.and_eq_true] at hs
  obtain ⟨m0, m1⟩ := mul_in2 hs.1 ht p9
  have b0 := inP_is hs.2
  have HB := hide B1
  have HN : Hid (w.heap.size < (w.alloc (.cells #[.int .i64 a, .int .i64 b] 67)).heap.size) := hide (by simp)
  unfold plc
  dsimp only at *
  clear B1 hs ht hq
  obtain ⟨m, hm⟩ : ∃ m, a * tag = m := ⟨_, rfl⟩
  rw [hm] at m0 m1 ⊢
  obtain ⟨y, hy⟩ : ∃ y, m + b = y := ⟨_, rfl⟩
  rw [hy]
  have y0 : 0 ≤ y := by omega
  have y1 : y ≤ 258572 := by omega
  have ne : ¬ p = 0 := by omega
  have ne2 : ¬ wd = 0 := by omega
  have t1 : Int.tmod y p = y % p := Int.tmod_eq_emod_of_nonneg y0
  have r0 : 0 ≤ y % p := Int.emod_nonneg _ ne
  have t2 : Int.tmod (y % p) wd = y % p % wd := Int.tmod_eq_emod_of_nonneg r0
  clear b0 r0
  generalize y % p = r at *
  generalize r % wd = z at *
  have HZ := hide hm
  go_enter Try.func52, Try.ntmps52
  go_wp2
  generalize hww : w.alloc (.cells #[.int .i64 a, .int .i64 b] 67) = w2 at *
  have x0 : ∀ k, (w2.drewN k).cell? ⟨q, 0, none⟩ = some (.int .i64 p) := fun _ => c0
  have x1 : ∀ k, (w2.drewN k).cell? ⟨q, 1, none⟩ = some (.int .i64 wd) := fun _ => c1
  have x2 : ∀ k, (w2.drewN k).cell? ⟨w.heap.size, 0, none⟩ = some (.int .i64 a) := fun _ => s0
  have x3 : ∀ k, (w2.drewN k).cell? ⟨w.heap.size, 1, none⟩ = some (.int .i64 b) := fun _ => s1
  clear c0 c1 c2 c3 s0 s1 hww
  go_quiet (fail)
  go_wp2
  go_ret
  exact ⟨rfl, below_drewN (unhide HB) _⟩
end Go.Proofs.Ythckgccfjpgbaaa
