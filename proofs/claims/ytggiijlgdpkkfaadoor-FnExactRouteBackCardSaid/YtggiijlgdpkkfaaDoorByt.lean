/- Slices of bytes: what they read as, which of them a call made, and the stream's bytes. -/
import Derived.Test.YtggiijlgdpkkfaaDoorSb
namespace Go.Proofs.YtggiijlgdpkkfaaDoor
open Go.RowKit
def isB (xs : List Int) : Prop := ∀ x ∈ xs, 0 ≤ x ∧ x < 256
theorem isB.at {xs : List Int} (h : isB xs) (i : Nat) : 0 ≤ xs.getD i 0 ∧ xs.getD i 0 < 256 := by
  rw [List.getD_eq_getElem?_getD]
  by_cases hi : i < xs.length
  · rw [List.getElem?_eq_getElem hi]; exact h _ (List.getElem_mem hi)
  · rw [List.getElem?_eq_none (by omega)]; decide
/-- a slice that reads as these bytes -/
def bytesV (w : World) (v : Value) (xs : List Int) : Prop :=
  ∃ A cap, v = .slice A xs.length cap ∧ isB xs ∧ (0 < xs.length → ∃ b off, A = some ⟨b, off, none⟩ ∧ b < w.heap.size ∧ ∀ i, i < xs.length → w.cell? ⟨b, off + i, none⟩ = some (.int .u8 (xs.getD i 0)))
/-- a slice of bytes in a block of its own, behind 'base' -/
def ownB (base : Nat) (w : World) (v : Value) (xs : List Int) : Prop :=
  isB xs ∧ ((v = .slice none 0 0 ∧ xs = []) ∨ ∃ g cap rest, v = .slice (some ⟨g, 0, none⟩) xs.length cap ∧ base ≤ g ∧ w.heap[g]? = some (rowObj 5 .u8 xs rest) ∧ xs.length ≤ cap)
theorem cell_rowObj {w : World} {g : Nat} {e : TypeId} {xs : List Int} {rest : List Value} (h : w.heap[g]? = some (rowObj e .u8 xs rest)) (i : Nat) (hi : i < xs.length) : w.cell? ⟨g, i, none⟩ = some (.int .u8 (xs.getD i 0)) := by
  rw [← row_same w g e .u8 xs rest h]
  exact cell_row _ _ _ _ _ _ _ hi (Array.getElem?_eq_some_iff.1 h).1
theorem ownB.bytes {base : Nat} {w : World} {v : Value} {xs : List Int} (h : ownB base w v xs) : bytesV w v xs := by
  obtain ⟨hb, ⟨rfl, rfl⟩ | ⟨g, cap, rest, rfl, hg, hc, hcp⟩⟩ := h
  · exact ⟨none, 0, rfl, hb, fun h => by simp at h⟩
  · exact ⟨_, _, rfl, hb, fun _ => ⟨g, 0, rfl, (Array.getElem?_eq_some_iff.1 hc).1, fun i hi => by rw [Nat.zero_add]; exact cell_rowObj hc i hi⟩⟩
theorem cell_below {w w' : World} (hb : Below w.heap.size w w') {b i : Nat} (h : b < w.heap.size) : w'.cell? ⟨b, i, none⟩ = w.cell? ⟨b, i, none⟩ := by
  unfold World.cell?
  rw [show (⟨b, i, none⟩ : Addr).block = b from rfl, hb.block b h]
theorem bytesV.below {w w' : World} {v : Value} {xs : List Int} (h : bytesV w v xs) (hb : Below w.heap.size w w') : bytesV w' v xs := by
  obtain ⟨A, cap, rfl, hi, hc⟩ := h
  refine ⟨A, cap, rfl, hi, fun hn => ?_⟩
  obtain ⟨b, off, rfl, hl, hc⟩ := hc hn
  exact ⟨b, off, rfl, Nat.lt_of_lt_of_le hl hb.size, fun i hi => (cell_below hb hl).trans (hc i hi)⟩
theorem ownB.below {base : Nat} {w w' : World} {v : Value} {xs : List Int} (h : ownB base w v xs) (hb : Below w.heap.size w w') : ownB base w' v xs := by
  obtain ⟨hi, h | ⟨g, cap, rest, rfl, hg, hc, hcp⟩⟩ := h
  · exact ⟨hi, .inl h⟩
  · exact ⟨hi, .inr ⟨g, cap, rest, rfl, hg, (hb.block g (Array.getElem?_eq_some_iff.1 hc).1).trans hc, hcp⟩⟩
theorem ownB.lower {base base' : Nat} {w : World} {v : Value} {xs : List Int} (h : ownB base w v xs) (hb : base' ≤ base) : ownB base' w v xs := by
  obtain ⟨hi, h | ⟨g, cap, rest, rfl, hg, hc, hcp⟩⟩ := h
  · exact ⟨hi, .inl h⟩
  · exact ⟨hi, .inr ⟨g, cap, rest, rfl, by omega, hc, hcp⟩⟩
/-- one byte against another -/
def x8 (a b : Int) : Int := bits .xor .u8 a b
theorem x8_eq (a b : Int) : bits .xor .u8 a b = x8 a b := rfl
theorem x8_bd {a b : Int} (ha : 0 ≤ a ∧ a < 256) (hb : 0 ≤ b ∧ b < 256) : 0 ≤ x8 a b ∧ x8 a b < 256 := by
  unfold x8
  rw [u8_xor a b ha.1 ha.2 hb.1 hb.2]
  have := Nat.xor_lt_two_pow (n := 8) (show a.toNat < 2 ^ 8 by omega) (show b.toNat < 2 ^ 8 by omega)
  omega
theorem x8_back {a b : Int} (ha : 0 ≤ a ∧ a < 256) (hb : 0 ≤ b ∧ b < 256) : x8 (x8 a b) b = a := by
  have hx := x8_bd ha hb
  unfold x8 at *
  rw [u8_xor _ b hx.1 hx.2 hb.1 hb.2, u8_xor a b ha.1 ha.2 hb.1 hb.2]
  rw [Int.toNat_natCast, Nat.xor_assoc, Nat.xor_self, Nat.xor_zero]
  omega
/-- the stream's byte at i, from counter c on -/
def ks (key nonce : ByteArray) (c : Int) (i : Nat) : Int := (blkN key nonce (c + (i / 64 : Nat))).getD (i % 64) 0
theorem blkN_isB (key nonce : ByteArray) (c : Int) : isB (blkN key nonce c) := outN_bd _ _ _
theorem ks_bd (key nonce : ByteArray) (c : Int) (i : Nat) : 0 ≤ ks key nonce c i ∧ ks key nonce c i < 256 := (blkN_isB _ _ _).at _
/-- bytes with a stream put on -/
def xorL (key nonce : ByteArray) (c : Int) (xs : List Int) : List Int := (List.range xs.length).map fun i => x8 (xs.getD i 0) (ks key nonce c i)
theorem xorL_len (key nonce : ByteArray) (c : Int) (xs : List Int) : (xorL key nonce c xs).length = xs.length := by simp [xorL]
theorem xorL_at (key nonce : ByteArray) (c : Int) (xs : List Int) (i : Nat) (h : i < xs.length) : (xorL key nonce c xs).getD i 0 = x8 (xs.getD i 0) (ks key nonce c i) := by
  rw [List.getD_eq_getElem?_getD, xorL, List.getElem?_map, List.getElem?_range h]; rfl
theorem xorL_isB (key nonce : ByteArray) (c : Int) (xs : List Int) (h : isB xs) : isB (xorL key nonce c xs) := by
  intro x hx
  obtain ⟨i, _, rfl⟩ := List.mem_map.1 hx
  exact x8_bd (h.at i) (ks_bd _ _ _ _)
/-- the first j of one list, then the rest of another -/
def mixL (r xs : List Int) (j : Nat) : List Int := r.take j ++ xs.drop j
theorem mixL_len (r xs : List Int) (j : Nat) (h : r.length = xs.length) : (mixL r xs j).length = xs.length := by simp [mixL]; omega
theorem mixL_zero (r xs : List Int) : mixL r xs 0 = xs := by simp [mixL]
theorem mixL_all (r xs : List Int) (h : r.length = xs.length) : mixL r xs xs.length = r := by simp [mixL, ← h]
theorem mixL_at (r xs : List Int) (j : Nat) (h : r.length = xs.length) (hj : j < xs.length) : (mixL r xs j).getD j 0 = xs.getD j 0 := by
  unfold mixL
  rw [List.getD_eq_getElem?_getD, List.getElem?_append_right (by simp; omega), List.getElem?_drop, List.getD_eq_getElem?_getD]
  congr 2
  simp; omega
theorem mixL_succ (r xs : List Int) (j : Nat) (h : r.length = xs.length) (hj : j < xs.length) : (mixL r xs j).set j (r.getD j 0) = mixL r xs (j + 1) := by
  apply List.ext_getElem?
  intro i
  unfold mixL
  rcases Nat.lt_trichotomy i j with hi | hi | hi
  · rw [List.getElem?_set_ne (by omega), List.getElem?_append_left (by simp; omega), List.getElem?_append_left (by simp; omega), List.getElem?_take_of_lt hi, List.getElem?_take_of_lt (by omega)]
  · subst hi
    rw [List.getElem?_set_self (by simp; omega), List.getElem?_append_left (by simp; omega), List.getElem?_take_of_lt (by omega), List.getD_eq_getElem?_getD, List.getElem?_eq_getElem (by omega)]
    rfl
  · rw [List.getElem?_set_ne (by omega), List.getElem?_append_right (by simp; omega), List.getElem?_append_right (by simp; omega), List.getElem?_drop, List.getElem?_drop]
    congr 1
    simp; omega
theorem bt_str (B : List Int) (h : isB B) (i : Nat) : bt (strOfNums B) i = B.getD i 0 := by
  unfold bt
  rw [strOfNums_data, List.getD_eq_getElem?_getD, List.getElem?_map]
  have := h.at i
  rw [List.getD_eq_getElem?_getD] at this ⊢
  by_cases hi : i < B.length
  · rw [List.getElem?_eq_getElem hi] at this ⊢
    simp at this ⊢
    omega
  · rw [List.getElem?_eq_none (by omega)]; rfl
theorem index_str (B : List Int) (h : isB B) (i : Nat) (hi : i < B.length) (w : World) : (Instr.index 9 (.string (strOfNums B)) (.int .i64 (i : Int))).run Tryd.prog w = .ok (.int .u8 (B.getD i 0)) w := by
  rw [index_bt (strOfNums B) i (by rw [strOfNums_size]; exact hi) w, bt_str B h i]
end Go.Proofs.YtggiijlgdpkkfaaDoor
