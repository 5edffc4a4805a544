/- StreamXor on both sides. -/
import Derived.Test.YtggiijlgdpkkfaaDoorHlp
import Derived.Test.YtggiijlgdpkkfaaDoorXor
namespace Go.Proofs.YtggiijlgdpkkfaaDoor
open Go.RowKit
set_option maxHeartbeats 4000000
set_option maxRecDepth 20000
/-- the bytes and the code that StreamXor answers -/
def sxC (key nonce : ByteArray) (c : Int) (n : Nat) : Int := if scode key nonce (decide (65536 < n)) ≠ 0 then scode key nonce (decide (65536 < n)) else if 0 ≤ c ∧ c ≤ 4294966271 then 0 else 4
def sxL (key nonce : ByteArray) (c : Int) (xs : List Int) : List Int := if sxC key nonce c xs.length = 0 then xorL key nonce c xs else []
theorem sx_nil {key nonce : ByteArray} {c : Int} {xs : List Int} {e : Int} (h : sxC key nonce c xs.length = e) (he : e ≠ 0) : sxL key nonce c xs = [] := by
  unfold sxL; rw [if_neg (by rw [h]; exact he)]
theorem own_nil (base : Nat) (w : World) : ownB base w (.slice none 0 0) [] := ⟨(fun x hx => by cases hx), .inl ⟨rfl, rfl⟩⟩
theorem own_none (w : World) : ownB w.heap.size (w.alloc (.cells #[] 5)) (.slice (some ⟨w.heap.size, 0, none⟩) 0 0) [] :=
  ⟨(fun x hx => by cases hx), .inr ⟨_, _, [], rfl, Nat.le_refl _, heap_at _ _ _ rfl, Nat.le_refl _⟩⟩
end Go.Proofs.YtggiijlgdpkkfaaDoor
