/- The specification's QuarterRound and words. -/
import Derived.Test.YtggiijlgdpkkfaaDoorQuarter
namespace Go.Proofs.YtggiijlgdpkkfaaDoor
open Go.RowKit
set_option maxHeartbeats 4000000
set_option maxRecDepth 20000
theorem below_drewN {B : Nat} {a w : World} (h : Below B a w) (k : Nat) : Below B a (w.drewN k) := ⟨h.os, h.tape, h.output, h.size, h.block⟩
theorem w_of' (n : Int) : n % 4294967296 = wi (BitVec.ofInt 32 n) := by rw [← IntKind.wrap_u32', w_of]
def qr4 (a b c d : Int) : List W32 := qL [BitVec.ofInt 32 a, BitVec.ofInt 32 b, BitVec.ofInt 32 c, BitVec.ofInt 32 d] 0 1 2 3
def QRV (a b c d : Int) : Value := .tuple #[.int .i64 (wi (gW (qr4 a b c d) 0)), .int .i64 (wi (gW (qr4 a b c d) 1)), .int .i64 (wi (gW (qr4 a b c d) 2)), .int .i64 (wi (gW (qr4 a b c d) 3))]
/-- four bytes as a word, the lowest first -/
def le4 (p q r s : Int) : W32 := BitVec.ofInt 32 (p + q * 256 + r * 65536 + s * 16777216)
theorem le4_or (p q r s : Int) (hp : 0 ≤ p ∧ p < 256) (hq : 0 ≤ q ∧ q < 256) (hr : 0 ≤ r ∧ r < 256) (hs : 0 ≤ s ∧ s < 256) :
    bits .or .u32 (bits .or .u32 (bits .or .u32 p (q * 256)) (r * 65536)) (s * 16777216) = wi (le4 p q r s) := by
  have e1 : bits .or .u32 p (q * 256) = p + q * 256 := by
    rw [u32_or _ _ hp.1 (by omega) (by omega) (by omega), Nat.or_comm, nat_join 8 _ _ (by omega) (by omega)]; omega
  rw [e1]
  have e2 : bits .or .u32 (p + q * 256) (r * 65536) = p + q * 256 + r * 65536 := by
    rw [u32_or _ _ (by omega) (by omega) (by omega) (by omega), Nat.or_comm, nat_join 16 _ _ (by omega) (by omega)]; omega
  rw [e2, u32_or _ _ (by omega) (by omega) (by omega) (by omega), Nat.or_comm, nat_join 24 _ _ (by omega) (by omega)]
  unfold le4
  rw [← w_of']
  omega
def bt (t : ByteArray) (i : Nat) : Int := ((t.data.toList.getD i 0).toNat : Int)
theorem bt_bd (t : ByteArray) (i : Nat) : 0 ≤ bt t i ∧ bt t i < 256 := by
  unfold bt; have := UInt8.toNat_lt (t.data.toList.getD i 0); omega
theorem index_bt (t : ByteArray) (i : Nat) (h : i < t.size) (w : World) : (Instr.index 9 (.string t) (.int .i64 (i : Int))).run Tryd.prog w = .ok (.int .u8 (bt t i)) w := by
  have e : bt t i = (t[i].toNat : Int) := by
    unfold bt
    have hl : i < t.data.toList.length := by rw [Array.length_toList]; exact h
    rw [List.getD_eq_getElem?_getD, List.getElem?_eq_getElem hl]
    rfl
  rw [e]
  go_simp
theorem word_any (t : ByteArray) (i : Nat) (h : i + 3 < t.size) (ht : t.size ≤ 65536) (w : World) : Calls Tryd.prog 38 #[.string t, .int .i64 i] w fun e w' => e = .returned (.int .u32 (wi (le4 (bt t i) (bt t (i + 1)) (bt t (i + 2)) (bt t (i + 3))))) ∧ ∃ k, w' = w.drewN k := by
  have q0 : (0 : Int) ≤ (i : Int) := by omega
  have q1 : (i : Int) ≤ 65536 := by omega
  have i0 := index_bt t i (by omega)
  have i1 := index_bt t (i + 1) (by omega)
  have i2 := index_bt t (i + 2) (by omega)
  have i3 := index_bt t (i + 3) (by omega)
  rw [show ((i + 1 : Nat) : Int) = (i : Int) + 1 by omega] at i1
  rw [show ((i + 2 : Nat) : Int) = (i : Int) + 2 by omega] at i2
  rw [show ((i + 3 : Nat) : Int) = (i : Int) + 3 by omega] at i3
  have E := hide (le4_or _ _ _ _ (bt_bd t i) (bt_bd t (i + 1)) (bt_bd t (i + 2)) (bt_bd t (i + 3)))
  obtain ⟨x0, y0⟩ := bt_bd t i
  obtain ⟨x1, y1⟩ := bt_bd t (i + 1)
  obtain ⟨x2, y2⟩ := bt_bd t (i + 2)
  obtain ⟨x3, y3⟩ := bt_bd t (i + 3)
  generalize bt t i = B0 at *
  generalize bt t (i + 1) = B1 at *
  generalize bt t (i + 2) = B2 at *
  generalize bt t (i + 3) = B3 at *
  go_enter Tryd.func38, Tryd.ntmps38
  go_wp2
  go_quiet (fail)
  go_wp2
  go_ret
  exact ⟨ret_w (unhide E), nq, rfl⟩
end Go.Proofs.YtggiijlgdpkkfaaDoor
