/- The specification's QuarterRound and words. -/
import Derived.Test.YtcikpcehdfnhfaaDoorQuarter
namespace Go.Proofs.YtcikpcehdfnhfaaDoor
open Go.RowKit
set_option maxHeartbeats 4000000
set_option maxRecDepth 20000
theorem below_drewN {B : Nat} {a w : World} (h : Below B a w) (k : Nat) : Below B a (w.drewN k) := ⟨h.os, h.tape, h.output, h.size, h.block⟩
theorem w_of' (n : Int) : n % 4294967296 = wi (BitVec.ofInt 32 n) := by rw [← IntKind.wrap_u32', w_of]
def qr4 (a b c d : Int) : List W32 := qL [BitVec.ofInt 32 a, BitVec.ofInt 32 b, BitVec.ofInt 32 c, BitVec.ofInt 32 d] 0 1 2 3
def QRV (a b c d : Int) : Value := .tuple #[.int .i64 (wi (gW (qr4 a b c d) 0)), .int .i64 (wi (gW (qr4 a b c d) 1)), .int .i64 (wi (gW (qr4 a b c d) 2)), .int .i64 (wi (gW (qr4 a b c d) 3))]
theorem spec_QR (a b c d : Int) (w : World) : Calls Tryd.prog 13 #[.int .i64 a, .int .i64 b, .int .i64 c, .int .i64 d] w fun e w' => e = .returned (QRV a b c d) ∧ Below w.heap.size w w' := by
  have ea := w_of' a
  have eb := w_of' b
  have ec := w_of' c
  have ed := w_of' d
  unfold QRV qr4
  generalize BitVec.ofInt 32 a = A at *
  generalize BitVec.ofInt 32 b = B at *
  generalize BitVec.ofInt 32 c = C at *
  generalize BitVec.ofInt 32 d = E at *
  go_enter Tryd.func13, Tryd.ntmps13
  go_wp2_with fail
  clear ea eb ec ed
  have hr : w.alloc (.cells #[wV A, wV B, wV C, wV E] 41) = rowW ((w.alloc (.cells #[wV A, wV B, wV C, wV E] 41)).drewN 0) w.heap.size 41 [A, B, C, E] [] := (rowW_same (w.alloc (.cells #[wV A, wV B, wV C, wV E] 41)) w.heap.size 41 [A, B, C, E] [] (by rw [heap_alloc_new]; rfl)).symm
  have hb0 : Below w.heap.size w (w.alloc (.cells #[wV A, wV B, wV C, wV E] 41)) := (Below.refl _ _).alloc (Nat.le_refl _) _
  have hz : w.heap.size < (w.alloc (.cells #[wV A, wV B, wV C, wV E] 41)).heap.size := by simp
  rw [hr]
  generalize w.alloc (.cells #[wV A, wV B, wV C, wV E] 41) = w1 at *
  clear hr
  refine (quarter_any w1 w.heap.size 4 [A, B, C, E] [] 4 0 1 2 3 0 hz rfl (by omega) (by omega) (by omega) (by omega)).mono ?_
  rintro e w2 ⟨rfl, k, rfl⟩
  have hl := qL_len [A, B, C, E] 0 1 2 3
  generalize hq : qL [A, B, C, E] 0 1 2 3 = q at *
  have HQ := hide hq
  clear hq
  have hl4 : q.length = 4 := hl
  have p0 := (row_facts w1 w.heap.size 4 q [] hz hl4 0 (by omega)).1
  have p1 := (row_facts w1 w.heap.size 4 q [] hz hl4 1 (by omega)).1
  have p2 := (row_facts w1 w.heap.size 4 q [] hz hl4 2 (by omega)).1
  have p3 := (row_facts w1 w.heap.size 4 q [] hz hl4 3 (by omega)).1
  obtain ⟨x0, y0⟩ := wi_bd (gW q 0)
  obtain ⟨x1, y1⟩ := wi_bd (gW q 1)
  obtain ⟨x2, y2⟩ := wi_bd (gW q 2)
  obtain ⟨x3, y3⟩ := wi_bd (gW q 3)
  clear hl hl4
  go_wp2
  go_quiet (fail)
  go_wp2
  go_returns
  rw [unhide HQ]
  exact ⟨rfl, below_drewN (below_rowW _ _ _ _ _ (below_drewN hb0 k) (Nat.le_refl _)) nq⟩
/-- four bytes as a word, the lowest first -/
def le4 (p q r s : Int) : W32 := BitVec.ofInt 32 (p + q * 256 + r * 65536 + s * 16777216)
theorem le4_or (p q r s : Int) (hp : 0 ≤ p ∧ p < 256) (hq : 0 ≤ q ∧ q < 256) (hr : 0 ≤ r ∧ r < 256) (hs : 0 ≤ s ∧ s < 256) :
    bits .or .u32 (bits .or .u32 (bits .or .u32 p (q * 256)) (r * 65536)) (s * 16777216) = wi (le4 p q r s) := by
  have e1 : bits .or .u32 p (q * 256) = p + q * 256 := by
    rw [u32_or _ _ hp.1 (by omega) (by omega) (by omega), Nat.or_comm, nat_join 8 _ _ (by omega) (by omega)]; omega
  rw [e1]
  have e2 : bits .or .u32 (p + q * 256) (r * 65536) = p + q * 256 + r * 65536 := by
    rw [u32_or _ _ (by omega) (by omega) (by omega) (by omega), Nat.or_comm, nat_join 16 _ _ (by omega) (by omega)]; omega
  rw [e2, u32_or _ _ (by omega) (by omega) (by omega) (by omega), Nat.or_comm, nat_join 24 _ _ (by omega) (by omega)]
  unfold le4
  rw [← w_of']
  omega
def bt (t : ByteArray) (i : Nat) : Int := ((t.data.toList.getD i 0).toNat : Int)
theorem bt_bd (t : ByteArray) (i : Nat) : 0 ≤ bt t i ∧ bt t i < 256 := by
  unfold bt; have := UInt8.toNat_lt (t.data.toList.getD i 0); omega
theorem index_bt (t : ByteArray) (i : Nat) (h : i < t.size) (w : World) : (Instr.index 9 (.string t) (.int .i64 (i : Int))).run Tryd.prog w = .ok (.int .u8 (bt t i)) w := by
  have e : bt t i = (t[i].toNat : Int) := by
    unfold bt
    have hl : i < t.data.toList.length := by rw [Array.length_toList]; exact h
    rw [List.getD_eq_getElem?_getD, List.getElem?_eq_getElem hl]
    rfl
  rw [e]
  go_simp
theorem word_any (t : ByteArray) (i : Nat) (h : i + 3 < t.size) (ht : t.size ≤ 65536) (w : World) : Calls Tryd.prog 39 #[.string t, .int .i64 i] w fun e w' => e = .returned (.int .u32 (wi (le4 (bt t i) (bt t (i + 1)) (bt t (i + 2)) (bt t (i + 3))))) ∧ ∃ k, w' = w.drewN k := by
  have q0 : (0 : Int) ≤ (i : Int) := by omega
  have q1 : (i : Int) ≤ 65536 := by omega
  have i0 := index_bt t i (by omega)
  have i1 := index_bt t (i + 1) (by omega)
  have i2 := index_bt t (i + 2) (by omega)
  have i3 := index_bt t (i + 3) (by omega)
  rw [show ((i + 1 : Nat) : Int) = (i : Int) + 1 by omega] at i1
  rw [show ((i + 2 : Nat) : Int) = (i : Int) + 2 by omega] at i2
  rw [show ((i + 3 : Nat) : Int) = (i : Int) + 3 by omega] at i3
  have E := hide (le4_or _ _ _ _ (bt_bd t i) (bt_bd t (i + 1)) (bt_bd t (i + 2)) (bt_bd t (i + 3)))
  obtain ⟨x0, y0⟩ := bt_bd t i
  obtain ⟨x1, y1⟩ := bt_bd t (i + 1)
  obtain ⟨x2, y2⟩ := bt_bd t (i + 2)
  obtain ⟨x3, y3⟩ := bt_bd t (i + 3)
  generalize bt t i = B0 at *
  generalize bt t (i + 1) = B1 at *
  generalize bt t (i + 2) = B2 at *
  generalize bt t (i + 3) = B3 at *
  go_enter Tryd.func39, Tryd.ntmps39
  go_wp2
  go_quiet (fail)
  go_wp2
  go_ret
  exact ⟨ret_w (unhide E), nq, rfl⟩
end Go.Proofs.YtcikpcehdfnhfaaDoor
