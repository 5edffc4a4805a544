/- The law of StreamXor, walked. -/
import Derived.Test.YtggiijlgdpkkfaaDoorSx
namespace Go.Proofs.YtggiijlgdpkkfaaDoor
open Go.RowKit
set_option maxHeartbeats 4000000
set_option maxRecDepth 20000
/-- a slice of bytes in a block of its own, between lo and hi -/
def ownIn (lo hi : Nat) (w : World) (v : Value) (xs : List Int) : Prop :=
  isB xs ∧ ((v = .slice none 0 0 ∧ xs = []) ∨ ∃ g cap rest, v = .slice (some ⟨g, 0, none⟩) xs.length cap ∧ lo ≤ g ∧ g < hi ∧ w.heap[g]? = some (rowObj 5 .u8 xs rest) ∧ xs.length ≤ cap)
theorem ownB.within {lo : Nat} {w : World} {v : Value} {xs : List Int} (h : ownB lo w v xs) : ownIn lo w.heap.size w v xs := by
  obtain ⟨hi, h | ⟨g, cap, rest, rfl, hg, hc, hcp⟩⟩ := h
  · exact ⟨hi, .inl h⟩
  · exact ⟨hi, .inr ⟨g, cap, rest, rfl, hg, (Array.getElem?_eq_some_iff.1 hc).1, hc, hcp⟩⟩
theorem ownIn.ownB {lo hi : Nat} {w : World} {v : Value} {xs : List Int} (h : ownIn lo hi w v xs) : ownB lo w v xs := by
  obtain ⟨hi, h | ⟨g, cap, rest, rfl, hg, _, hc, hcp⟩⟩ := h
  · exact ⟨hi, .inl h⟩
  · exact ⟨hi, .inr ⟨g, cap, rest, rfl, hg, hc, hcp⟩⟩
theorem ownIn.bytes {lo hi : Nat} {w : World} {v : Value} {xs : List Int} (h : ownIn lo hi w v xs) : bytesV w v xs := h.ownB.bytes
theorem ownIn.below {lo hi : Nat} {w w' : World} {v : Value} {xs : List Int} (h : ownIn lo hi w v xs) (hb : Below w.heap.size w w') : ownIn lo hi w' v xs := by
  obtain ⟨hi, h | ⟨g, cap, rest, rfl, hg, hh, hc, hcp⟩⟩ := h
  · exact ⟨hi, .inl h⟩
  · exact ⟨hi, .inr ⟨g, cap, rest, rfl, hg, hh, (hb.block g (Array.getElem?_eq_some_iff.1 hc).1).trans hc, hcp⟩⟩
/-- where v lies -/
def liesIn (lo hi : Nat) (v : Value) : Prop := ∀ g, v.ownBlock = some g → lo ≤ g ∧ g < hi
theorem ownIn.lies {lo hi : Nat} {w : World} {v : Value} {xs : List Int} (h : ownIn lo hi w v xs) : liesIn lo hi v := by
  intro g hg
  obtain ⟨_, ⟨rfl, _⟩ | ⟨g', cap, rest, rfl, h1, h2, _⟩⟩ := h
  · cases hg
  · cases hg; exact ⟨h1, h2⟩
theorem ownIn.touch {lo hi lo' hi' : Nat} {w w' : World} {u v : Value} {xs : List Int} (h : ownIn lo hi w u xs) (ht : Touch v w w') (hl : liesIn lo' hi' v) (hd : hi ≤ lo' ∨ hi' ≤ lo) : ownIn lo hi w' u xs := by
  obtain ⟨hb, h | ⟨g, cap, rest, rfl, hg, hh, hc, hcp⟩⟩ := h
  · exact ⟨hb, .inl h⟩
  · refine ⟨hb, .inr ⟨g, cap, rest, rfl, hg, hh, (ht.block g ?_).trans hc, hcp⟩⟩
    intro e
    have := hl g e
    omega
theorem below_touch {B lo hi : Nat} {a w w' : World} {v : Value} (h : Below B a w) (ht : Touch v w w') (hl : liesIn lo hi v) (hB : B ≤ lo) : Below B a w' :=
  ⟨ht.os.trans h.os, ht.tape.trans h.tape, ht.output.trans h.output, by rw [ht.size]; exact h.size, fun k hk => by
    rw [ht.block k (fun e => by have := hl k e; omega)]; exact h.block k hk⟩
theorem sxL_len (key nonce : ByteArray) (c : Int) (xs : List Int) : (sxL key nonce c xs).length ≤ xs.length := by
  unfold sxL; split
  · rw [xorL_len]; exact Nat.le_refl _
  · simp
end Go.Proofs.YtggiijlgdpkkfaaDoor
