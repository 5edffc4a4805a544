/- What FnStream's law turns on: streams taken off, and later ones. -/
import Derived.Test.YtcikpcehdfnhfaaDoorSxLaw
namespace Go.Proofs.YtcikpcehdfnhfaaDoor
open Go.RowKit
theorem ext_getD {a b : List Int} (hl : a.length = b.length) (h : ∀ i, i < a.length → a.getD i 0 = b.getD i 0) : a = b := by
  apply List.ext_getElem hl
  intro i h1 h2
  have := h i h1
  rw [List.getD_eq_getElem?_getD, List.getD_eq_getElem?_getD, List.getElem?_eq_getElem h1, List.getElem?_eq_getElem h2] at this
  simpa using this
theorem xorL_back (key nonce : ByteArray) (c : Int) (xs : List Int) (h : isB xs) : xorL key nonce c (xorL key nonce c xs) = xs := by
  apply ext_getD (by rw [xorL_len, xorL_len])
  intro i hi
  rw [xorL_len, xorL_len] at hi
  rw [xorL_at _ _ _ _ _ (by rw [xorL_len]; exact hi), xorL_at _ _ _ _ _ hi, x8_back (h.at i) (ks_bd _ _ _ _)]
theorem ks_later (key nonce : ByteArray) (c : Int) (i : Nat) : ks key nonce (c + 1) i = ks key nonce c (i + 64) := by
  unfold ks
  rw [show (i + 64) % 64 = i % 64 by omega, show c + 1 + ((i / 64 : Nat) : Int) = c + (((i + 64) / 64 : Nat) : Int) by omega]
theorem getD_drop (xs : List Int) (k i : Nat) : (xs.drop k).getD i 0 = xs.getD (i + k) 0 := by
  rw [List.getD_eq_getElem?_getD, List.getElem?_drop, List.getD_eq_getElem?_getD, Nat.add_comm]
theorem xorL_later (key nonce : ByteArray) (c : Int) (xs : List Int) : xorL key nonce (c + 1) (xs.drop 64) = (xorL key nonce c xs).drop 64 := by
  apply ext_getD (by rw [xorL_len, List.length_drop, List.length_drop, xorL_len])
  intro i hi
  rw [xorL_len, List.length_drop] at hi
  rw [xorL_at _ _ _ _ _ (by rw [List.length_drop]; exact hi), getD_drop, getD_drop, xorL_at _ _ _ _ _ (by omega), ks_later]
theorem xorL_head (key nonce : ByteArray) (c : Int) (xs : List Int) (i : Nat) (hi : i < 64) (hx : i < xs.length) : (xorL key nonce c xs).getD i 0 = x8 (xs.getD i 0) ((blkN key nonce c).getD i 0) := by
  rw [xorL_at _ _ _ _ _ hx]
  unfold ks
  rw [show i / 64 = 0 by omega, show i % 64 = i by omega]
  simp
theorem sx_ok (key nonce : ByteArray) (hk : key.size = 32) (hn : nonce.size = 12) (c : Int) (h0 : 0 ≤ c) (h1 : c ≤ 1000) (xs : List Int) (hx : xs.length ≤ 65536) : sxC key nonce c xs.length = 0 ∧ sxL key nonce c xs = xorL key nonce c xs := by
  have hlb : decide (65536 < xs.length) = false := by simpa using hx
  have e0 : scode key nonce (decide (65536 < xs.length)) = 0 := by rw [hlb]; unfold scode; rw [if_neg (by simp; omega), if_neg (by omega)]
  have eC : sxC key nonce c xs.length = 0 := by unfold sxC; rw [if_neg (by simp [e0]), if_pos (by omega)]
  exact ⟨eC, by unfold sxL; rw [if_pos eC]⟩
theorem sb_ok (key nonce : ByteArray) (hk : key.size = 32) (hn : nonce.size = 12) (c : Int) (h0 : 0 ≤ c) (h1 : c ≤ 1000) : sbV key nonce c = .tuple #[.string (strOfNums (blkN key nonce c)), .int .i64 0] := by
  have e0 : scode key nonce false = 0 := by unfold scode; rw [if_neg (by simp; omega), if_neg (by omega)]
  unfold sbV; rw [if_neg (by simp [e0]), if_pos (by omega)]
/-- bytes in a block, from a place on -/
structure rowAt (W : World) (g off : Nat) (xs : List Int) : Prop where
  lt : g < W.heap.size
  cell : ∀ i, i < xs.length → W.cell? ⟨g, off + i, none⟩ = some (.int .u8 (xs.getD i 0))
theorem rowAt.below {W W' : World} {g off : Nat} {xs : List Int} (h : rowAt W g off xs) (hb : Below W.heap.size W W') : rowAt W' g off xs :=
  ⟨Nat.lt_of_lt_of_le h.lt hb.size, fun i hi => (cell_below hb h.lt).trans (h.cell i hi)⟩
theorem rowAt.drop {W : World} {g off : Nat} {xs : List Int} (h : rowAt W g off xs) (k : Nat) : rowAt W g (off + k) (xs.drop k) :=
  ⟨h.lt, fun i hi => by
    rw [List.length_drop] at hi
    rw [getD_drop, show off + k + i = off + (i + k) by omega]
    exact h.cell (i + k) (by omega)⟩
theorem rowAt.bytes {W : World} {g off : Nat} {xs : List Int} (h : rowAt W g off xs) (hb : isB xs) (n cap : Nat) (hn : n = xs.length) : bytesV W (.slice (some ⟨g, off, none⟩) n cap) xs :=
  ⟨some ⟨g, off, none⟩, cap, by rw [hn], hb, fun _ => ⟨g, off, rfl, h.lt, h.cell⟩⟩
theorem rowAt.conv {W : World} {g off : Nat} {xs : List Int} (h : rowAt W g off xs) (n cap : Nat) (hn : n = xs.length) : (convert 22 9 (.slice (some ⟨g, off, none⟩) n cap)).run Tryd.prog W = .ok (.string (strOfNums xs)) W :=
  run_convert_bytes_arg _ 22 5 Tryd.underlying22 Tryd.underlying5 g off n cap xs hn.symm (fun i hi => h.cell i (by omega)) 9 Tryd.underlying9
theorem ownB.conv {base : Nat} {W : World} {v : Value} {xs : List Int} (h : ownB base W v xs) : (convert 22 9 v).run Tryd.prog W = .ok (.string (strOfNums xs)) W := by
  obtain ⟨hb, ⟨rfl, rfl⟩ | ⟨g, cap, rest, rfl, hg, hc, hcp⟩⟩ := h
  · exact run_convert_bytes_nil _ 22 5 Tryd.underlying22 Tryd.underlying5 0 0 9 Tryd.underlying9
  · exact rowAt.conv ⟨(Array.getElem?_eq_some_iff.1 hc).1, fun i hi => by rw [Nat.zero_add]; exact cell_rowObj hc i hi⟩ _ _ rfl
theorem ownB.row {base : Nat} {W : World} {v : Value} {xs : List Int} (h : ownB base W v xs) (h0 : 0 < xs.length) : ∃ g cap, v = .slice (some ⟨g, 0, none⟩) xs.length cap ∧ xs.length ≤ cap ∧ rowAt W g 0 xs := by
  obtain ⟨hb, ⟨rfl, rfl⟩ | ⟨g, cap, rest, rfl, hg, hc, hcp⟩⟩ := h
  · simp at h0
  · exact ⟨g, cap, rfl, hcp, ⟨(Array.getElem?_eq_some_iff.1 hc).1, fun i hi => by rw [Nat.zero_add]; exact cell_rowObj hc i hi⟩⟩
end Go.Proofs.YtcikpcehdfnhfaaDoor
