/- The number of a text of bytes, the lowest first, and its bits. -/
import Derived.Test.YtncplefjokbbjaaNum
import Derived.Test.YtncplefjokbbjaaDig
namespace Go.Proofs.Ytncplefjokbbjaa
open Go.RowKit
def leN : List UInt8 → Nat
  | [] => 0
  | b :: r => b.toNat + 256 * leN r
def numN (s : ByteArray) : Nat := leN s.data.toList
theorem leN_bit : ∀ (l : List UInt8) (k : Nat), (leN l).testBit k = (l.getD (k / 8) 0).toNat.testBit (k % 8)
  | [], k => by simp [leN]
  | b :: r, k => by
    have hb : b.toNat < 2 ^ 8 := UInt8.toNat_lt b
    have e : leN (b :: r) = 2 ^ 8 * leN r + b.toNat := by simp only [leN]; omega
    rw [e, Nat.testBit_two_pow_mul_add _ hb]
    by_cases hk : k < 8
    · have h1 : k / 8 = 0 := by omega
      have h2 : k % 8 = k := by omega
      rw [if_pos hk, h1, h2]; rfl
    · have h1 : k / 8 = (k - 8) / 8 + 1 := by omega
      have h2 : k % 8 = (k - 8) % 8 := by omega
      rw [if_neg hk, leN_bit r (k - 8), h1, h2, List.getD_cons_succ]
theorem leN_lt : ∀ l : List UInt8, leN l < 256 ^ l.length
  | [] => by simp [leN]
  | b :: r => by
    have hb : b.toNat < 256 := UInt8.toNat_lt b
    have h := leN_lt r
    simp only [leN, List.length_cons, Nat.pow_succ]
    omega
theorem numN_lt (s : ByteArray) (h : s.size = 32) : numN s < 256 ^ 32 := by
  have := leN_lt s.data.toList
  rw [show s.data.toList.length = 32 from by simpa using h] at this
  exact this
theorem numN_bit (s : ByteArray) (k : Nat) (h : k / 8 < s.size) : (numN s).testBit k = s[k / 8].toNat.testBit (k % 8) := by
  unfold numN
  rw [leN_bit]
  congr 2
  have h2 : k / 8 < s.data.toList.length := by simpa using h
  rw [List.getD_eq_getElem?_getD, List.getElem?_eq_getElem h2]; rfl
theorem list32 (l : List UInt8) (h : l.length = 32) : ∃ b0 b1 b2 b3 b4 b5 b6 b7 b8 b9 b10 b11 b12 b13 b14 b15 b16 b17 b18 b19 b20 b21 b22 b23 b24 b25 b26 b27 b28 b29 b30 b31 : UInt8, l = [b0, b1, b2, b3, b4, b5, b6, b7, b8, b9, b10, b11, b12, b13, b14, b15, b16, b17, b18, b19, b20, b21, b22, b23, b24, b25, b26, b27, b28, b29, b30, b31] := by
  rcases l with _ | ⟨b0, l⟩
  · simp at h
  rcases l with _ | ⟨b1, l⟩
  · simp at h
  rcases l with _ | ⟨b2, l⟩
  · simp at h
  rcases l with _ | ⟨b3, l⟩
  · simp at h
  rcases l with _ | ⟨b4, l⟩
  · simp at h
  rcases l with _ | ⟨b5, l⟩
  · simp at h
  rcases l with _ | ⟨b6, l⟩
  · simp at h
  rcases l with _ | ⟨b7, l⟩
  · simp at h
  rcases l with _ | ⟨b8, l⟩
  · simp at h
  rcases l with _ | ⟨b9, l⟩
  · simp at h
  rcases l with _ | ⟨b10, l⟩
  · simp at h
  rcases l with _ | ⟨b11, l⟩
  · simp at h
  rcases l with _ | ⟨b12, l⟩
  · simp at h
  rcases l with _ | ⟨b13, l⟩
  · simp at h
  rcases l with _ | ⟨b14, l⟩
  · simp at h
  rcases l with _ | ⟨b15, l⟩
  · simp at h
  rcases l with _ | ⟨b16, l⟩
  · simp at h
  rcases l with _ | ⟨b17, l⟩
  · simp at h
  rcases l with _ | ⟨b18, l⟩
  · simp at h
  rcases l with _ | ⟨b19, l⟩
  · simp at h
  rcases l with _ | ⟨b20, l⟩
  · simp at h
  rcases l with _ | ⟨b21, l⟩
  · simp at h
  rcases l with _ | ⟨b22, l⟩
  · simp at h
  rcases l with _ | ⟨b23, l⟩
  · simp at h
  rcases l with _ | ⟨b24, l⟩
  · simp at h
  rcases l with _ | ⟨b25, l⟩
  · simp at h
  rcases l with _ | ⟨b26, l⟩
  · simp at h
  rcases l with _ | ⟨b27, l⟩
  · simp at h
  rcases l with _ | ⟨b28, l⟩
  · simp at h
  rcases l with _ | ⟨b29, l⟩
  · simp at h
  rcases l with _ | ⟨b30, l⟩
  · simp at h
  rcases l with _ | ⟨b31, l⟩
  · simp at h
  rcases l with _ | ⟨c, l⟩
  · exact ⟨b0, b1, b2, b3, b4, b5, b6, b7, b8, b9, b10, b11, b12, b13, b14, b15, b16, b17, b18, b19, b20, b21, b22, b23, b24, b25, b26, b27, b28, b29, b30, b31, rfl⟩
  · simp at h
theorem num32_eq (s : ByteArray) (h : s.size = 32) : num32 s = (numN s : Int) := by
  obtain ⟨⟨l⟩⟩ := s
  obtain ⟨b0, b1, b2, b3, b4, b5, b6, b7, b8, b9, b10, b11, b12, b13, b14, b15, b16, b17, b18, b19, b20, b21, b22, b23, b24, b25, b26, b27, b28, b29, b30, b31, rfl⟩ := list32 l h
  have e0 : byteAt ⟨⟨[b0, b1, b2, b3, b4, b5, b6, b7, b8, b9, b10, b11, b12, b13, b14, b15, b16, b17, b18, b19, b20, b21, b22, b23, b24, b25, b26, b27, b28, b29, b30, b31]⟩⟩ 0 = (b0.toNat : Int) := rfl
  have e1 : byteAt ⟨⟨[b0, b1, b2, b3, b4, b5, b6, b7, b8, b9, b10, b11, b12, b13, b14, b15, b16, b17, b18, b19, b20, b21, b22, b23, b24, b25, b26, b27, b28, b29, b30, b31]⟩⟩ 1 = (b1.toNat : Int) := rfl
  have e2 : byteAt ⟨⟨[b0, b1, b2, b3, b4, b5, b6, b7, b8, b9, b10, b11, b12, b13, b14, b15, b16, b17, b18, b19, b20, b21, b22, b23, b24, b25, b26, b27, b28, b29, b30, b31]⟩⟩ 2 = (b2.toNat : Int) := rfl
  have e3 : byteAt ⟨⟨[b0, b1, b2, b3, b4, b5, b6, b7, b8, b9, b10, b11, b12, b13, b14, b15, b16, b17, b18, b19, b20, b21, b22, b23, b24, b25, b26, b27, b28, b29, b30, b31]⟩⟩ 3 = (b3.toNat : Int) := rfl
  have e4 : byteAt ⟨⟨[b0, b1, b2, b3, b4, b5, b6, b7, b8, b9, b10, b11, b12, b13, b14, b15, b16, b17, b18, b19, b20, b21, b22, b23, b24, b25, b26, b27, b28, b29, b30, b31]⟩⟩ 4 = (b4.toNat : Int) := rfl
  have e5 : byteAt ⟨⟨[b0, b1, b2, b3, b4, b5, b6, b7, b8, b9, b10, b11, b12, b13, b14, b15, b16, b17, b18, b19, b20, b21, b22, b23, b24, b25, b26, b27, b28, b29, b30, b31]⟩⟩ 5 = (b5.toNat : Int) := rfl
  have e6 : byteAt ⟨⟨[b0, b1, b2, b3, b4, b5, b6, b7, b8, b9, b10, b11, b12, b13, b14, b15, b16, b17, b18, b19, b20, b21, b22, b23, b24, b25, b26, b27, b28, b29, b30, b31]⟩⟩ 6 = (b6.toNat : Int) := rfl
  have e7 : byteAt ⟨⟨[b0, b1, b2, b3, b4, b5, b6, b7, b8, b9, b10, b11, b12, b13, b14, b15, b16, b17, b18, b19, b20, b21, b22, b23, b24, b25, b26, b27, b28, b29, b30, b31]⟩⟩ 7 = (b7.toNat : Int) := rfl
  have e8 : byteAt ⟨⟨[b0, b1, b2, b3, b4, b5, b6, b7, b8, b9, b10, b11, b12, b13, b14, b15, b16, b17, b18, b19, b20, b21, b22, b23, b24, b25, b26, b27, b28, b29, b30, b31]⟩⟩ 8 = (b8.toNat : Int) := rfl
  have e9 : byteAt ⟨⟨[b0, b1, b2, b3, b4, b5, b6, b7, b8, b9, b10, b11, b12, b13, b14, b15, b16, b17, b18, b19, b20, b21, b22, b23, b24, b25, b26, b27, b28, b29, b30, b31]⟩⟩ 9 = (b9.toNat : Int) := rfl
  have e10 : byteAt ⟨⟨[b0, b1, b2, b3, b4, b5, b6, b7, b8, b9, b10, b11, b12, b13, b14, b15, b16, b17, b18, b19, b20, b21, b22, b23, b24, b25, b26, b27, b28, b29, b30, b31]⟩⟩ 10 = (b10.toNat : Int) := rfl
  have e11 : byteAt ⟨⟨[b0, b1, b2, b3, b4, b5, b6, b7, b8, b9, b10, b11, b12, b13, b14, b15, b16, b17, b18, b19, b20, b21, b22, b23, b24, b25, b26, b27, b28, b29, b30, b31]⟩⟩ 11 = (b11.toNat : Int) := rfl
  have e12 : byteAt ⟨⟨[b0, b1, b2, b3, b4, b5, b6, b7, b8, b9, b10, b11, b12, b13, b14, b15, b16, b17, b18, b19, b20, b21, b22, b23, b24, b25, b26, b27, b28, b29, b30, b31]⟩⟩ 12 = (b12.toNat : Int) := rfl
  have e13 : byteAt ⟨⟨[b0, b1, b2, b3, b4, b5, b6, b7, b8, b9, b10, b11, b12, b13, b14, b15, b16, b17, b18, b19, b20, b21, b22, b23, b24, b25, b26, b27, b28, b29, b30, b31]⟩⟩ 13 = (b13.toNat : Int) := rfl
  have e14 : byteAt ⟨⟨[b0, b1, b2, b3, b4, b5, b6, b7, b8, b9, b10, b11, b12, b13, b14, b15, b16, b17, b18, b19, b20, b21, b22, b23, b24, b25, b26, b27, b28, b29, b30, b31]⟩⟩ 14 = (b14.toNat : Int) := rfl
  have e15 : byteAt ⟨⟨[b0, b1, b2, b3, b4, b5, b6, b7, b8, b9, b10, b11, b12, b13, b14, b15, b16, b17, b18, b19, b20, b21, b22, b23, b24, b25, b26, b27, b28, b29, b30, b31]⟩⟩ 15 = (b15.toNat : Int) := rfl
  have e16 : byteAt ⟨⟨[b0, b1, b2, b3, b4, b5, b6, b7, b8, b9, b10, b11, b12, b13, b14, b15, b16, b17, b18, b19, b20, b21, b22, b23, b24, b25, b26, b27, b28, b29, b30, b31]⟩⟩ 16 = (b16.toNat : Int) := rfl
  have e17 : byteAt ⟨⟨[b0, b1, b2, b3, b4, b5, b6, b7, b8, b9, b10, b11, b12, b13, b14, b15, b16, b17, b18, b19, b20, b21, b22, b23, b24, b25, b26, b27, b28, b29, b30, b31]⟩⟩ 17 = (b17.toNat : Int) := rfl
  have e18 : byteAt ⟨⟨[b0, b1, b2, b3, b4, b5, b6, b7, b8, b9, b10, b11, b12, b13, b14, b15, b16, b17, b18, b19, b20, b21, b22, b23, b24, b25, b26, b27, b28, b29, b30, b31]⟩⟩ 18 = (b18.toNat : Int) := rfl
  have e19 : byteAt ⟨⟨[b0, b1, b2, b3, b4, b5, b6, b7, b8, b9, b10, b11, b12, b13, b14, b15, b16, b17, b18, b19, b20, b21, b22, b23, b24, b25, b26, b27, b28, b29, b30, b31]⟩⟩ 19 = (b19.toNat : Int) := rfl
  have e20 : byteAt ⟨⟨[b0, b1, b2, b3, b4, b5, b6, b7, b8, b9, b10, b11, b12, b13, b14, b15, b16, b17, b18, b19, b20, b21, b22, b23, b24, b25, b26, b27, b28, b29, b30, b31]⟩⟩ 20 = (b20.toNat : Int) := rfl
  have e21 : byteAt ⟨⟨[b0, b1, b2, b3, b4, b5, b6, b7, b8, b9, b10, b11, b12, b13, b14, b15, b16, b17, b18, b19, b20, b21, b22, b23, b24, b25, b26, b27, b28, b29, b30, b31]⟩⟩ 21 = (b21.toNat : Int) := rfl
  have e22 : byteAt ⟨⟨[b0, b1, b2, b3, b4, b5, b6, b7, b8, b9, b10, b11, b12, b13, b14, b15, b16, b17, b18, b19, b20, b21, b22, b23, b24, b25, b26, b27, b28, b29, b30, b31]⟩⟩ 22 = (b22.toNat : Int) := rfl
  have e23 : byteAt ⟨⟨[b0, b1, b2, b3, b4, b5, b6, b7, b8, b9, b10, b11, b12, b13, b14, b15, b16, b17, b18, b19, b20, b21, b22, b23, b24, b25, b26, b27, b28, b29, b30, b31]⟩⟩ 23 = (b23.toNat : Int) := rfl
  have e24 : byteAt ⟨⟨[b0, b1, b2, b3, b4, b5, b6, b7, b8, b9, b10, b11, b12, b13, b14, b15, b16, b17, b18, b19, b20, b21, b22, b23, b24, b25, b26, b27, b28, b29, b30, b31]⟩⟩ 24 = (b24.toNat : Int) := rfl
  have e25 : byteAt ⟨⟨[b0, b1, b2, b3, b4, b5, b6, b7, b8, b9, b10, b11, b12, b13, b14, b15, b16, b17, b18, b19, b20, b21, b22, b23, b24, b25, b26, b27, b28, b29, b30, b31]⟩⟩ 25 = (b25.toNat : Int) := rfl
  have e26 : byteAt ⟨⟨[b0, b1, b2, b3, b4, b5, b6, b7, b8, b9, b10, b11, b12, b13, b14, b15, b16, b17, b18, b19, b20, b21, b22, b23, b24, b25, b26, b27, b28, b29, b30, b31]⟩⟩ 26 = (b26.toNat : Int) := rfl
  have e27 : byteAt ⟨⟨[b0, b1, b2, b3, b4, b5, b6, b7, b8, b9, b10, b11, b12, b13, b14, b15, b16, b17, b18, b19, b20, b21, b22, b23, b24, b25, b26, b27, b28, b29, b30, b31]⟩⟩ 27 = (b27.toNat : Int) := rfl
  have e28 : byteAt ⟨⟨[b0, b1, b2, b3, b4, b5, b6, b7, b8, b9, b10, b11, b12, b13, b14, b15, b16, b17, b18, b19, b20, b21, b22, b23, b24, b25, b26, b27, b28, b29, b30, b31]⟩⟩ 28 = (b28.toNat : Int) := rfl
  have e29 : byteAt ⟨⟨[b0, b1, b2, b3, b4, b5, b6, b7, b8, b9, b10, b11, b12, b13, b14, b15, b16, b17, b18, b19, b20, b21, b22, b23, b24, b25, b26, b27, b28, b29, b30, b31]⟩⟩ 29 = (b29.toNat : Int) := rfl
  have e30 : byteAt ⟨⟨[b0, b1, b2, b3, b4, b5, b6, b7, b8, b9, b10, b11, b12, b13, b14, b15, b16, b17, b18, b19, b20, b21, b22, b23, b24, b25, b26, b27, b28, b29, b30, b31]⟩⟩ 30 = (b30.toNat : Int) := rfl
  have e31 : byteAt ⟨⟨[b0, b1, b2, b3, b4, b5, b6, b7, b8, b9, b10, b11, b12, b13, b14, b15, b16, b17, b18, b19, b20, b21, b22, b23, b24, b25, b26, b27, b28, b29, b30, b31]⟩⟩ 31 = (b31.toNat : Int) := rfl
  unfold num32 numN
  rw [e0, e1, e2, e3, e4, e5, e6, e7, e8, e9, e10, e11, e12, e13, e14, e15, e16, e17, e18, e19, e20, e21, e22, e23, e24, e25, e26, e27, e28, e29, e30, e31]
  simp only [leN]
  omega
/-- digits as whole numbers -/
def digI (d L n k : Nat) : List Int := (dig d L n k).map Int.ofNat
theorem digI_len (d L n k : Nat) : (digI d L n k).length = L := by simp [digI, dig_len]
theorem digI_get (d L n k j : Nat) : (digI d L n k)[j]?.getD 0 = (((dig d L n k).getD j 0 : Nat) : Int) := by
  simp only [digI, List.getElem?_map, List.getD_eq_getElem?_getD]
  cases (dig d L n k)[j]? <;> rfl
theorem digI_zero (d L n : Nat) : digI d L n 0 = List.replicate L 0 := by simp [digI, dig_zero]
theorem digI_step (d L n k : Nat) (hd : 0 < d) (hk : k / d < L) (hb : n.testBit k = true) : digI d L n (k + 1) = (digI d L n k).set (k / d) ((digI d L n k)[k / d]?.getD 0 + 2 ^ (k % d)) := by
  rw [digI_get]
  unfold digI
  rw [dig_step d L n k hd hk hb, List.map_set]
  congr 1
theorem digI_stay (d L n k : Nat) (hb : n.testBit k = false) : digI d L n (k + 1) = digI d L n k := by
  simp [digI, dig_stay d L n k hb]
theorem digI_bd (d L n k : Nat) (hk : k / d < L) : 0 ≤ (digI d L n k)[k / d]?.getD 0 ∧ (digI d L n k)[k / d]?.getD 0 < 2 ^ (k % d) := by
  rw [digI_get, dig_get _ _ _ _ _ hk]
  have h := low d n k
  refine ⟨by omega, ?_⟩
  have e : ((2 : Int) ^ (k % d)) = ((2 ^ (k % d) : Nat) : Int) := by simp
  rw [e]; omega
theorem pow_bd (k d m : Nat) (h : k % d ≤ m) : (0 : Int) < 2 ^ (k % d) ∧ (2 : Int) ^ (k % d) ≤ 2 ^ m := by
  have e : ((2 : Int) ^ (k % d)) = ((2 ^ (k % d) : Nat) : Int) := by simp
  have e2 : ((2 : Int) ^ m) = ((2 ^ m : Nat) : Int) := by simp
  have h1 := Nat.two_pow_pos (k % d)
  have h2 := Nat.pow_le_pow_right (show 0 < 2 by decide) h
  rw [e, e2]; omega
theorem and_one (i : Nat) (hi : i < 9223372036854775808) : bits .and .i64 (i : Int) 1 = ((i % 2 : Nat) : Int) := by
  have two63 : (2 : Int) ^ 63 = 9223372036854775808 := by decide
  have h := bits_mask .i64 63 (by decide) (fun n h0 h1 => by rw [two63] at h1; rw [IntKind.wrap_i64]; omega) 1 (by decide) (i : Int) (by omega) (by rw [two63]; omega)
  have e : ((2 : Int) ^ 1 - 1) = 1 := by decide
  rw [e] at h
  rw [h]
  omega
theorem bit_nat (x t : Nat) (hx : x < 9223372036854775808) : (bits .and .i64 ((x : Int) / 2 ^ t) 1 == 1) = x.testBit t := by
  have e2 : ((x : Int) / 2 ^ t) = ((x / 2 ^ t : Nat) : Int) := by simp
  have e3 : x / 2 ^ t < 9223372036854775808 := Nat.lt_of_le_of_lt (Nat.div_le_self _ _) hx
  rw [e2, Nat.testBit_eq_decide_div_mod_eq]
  generalize x / 2 ^ t = q at *
  rw [and_one q e3, Bool.eq_iff_iff]
  simp
  omega
theorem bit_byte (c : UInt8) (t : Nat) : (bits .and .i64 (wrap64 (c.toNat : Int) / 2 ^ t) 1 == 1) = c.toNat.testBit t := by
  have hc := UInt8.toNat_lt c
  rw [IntWalk.wrap64_in _ (by omega)]
  exact bit_nat _ _ (by omega)
end Go.Proofs.Ytncplefjokbbjaa
