/- PeerIn of the specification. -/
import Derived.Test.YtbkcgkffafjbgaaGreatDoorIns
import Derived.Test.YtbkcgkffafjbgaaGreatDoorInf
/- A frame taken, by the specification. -/
namespace Go.Proofs.YtbkcgkffafjbgaaGreatDoor
open Go.RowKit
theorem in57 (v : Value) (p : Pe) (f : Fr) (w : World) (hv : peV w v p) (hcq : capQ v p) (hf : peFew p) (hs : 0 ≤ p.s ∧ p.s ≤ 1048576) (he : 0 ≤ p.e ∧ p.e ≤ 1048576) :
    Calls Tryz.prog 40 #[v, frV f] w fun e w' => ∃ r, e = .returned r ∧ peV w' r (inF p f) ∧ capQ r (inF p f) ∧ farP w v r ∧ Below w.heap.size w w' := by
  cases h : awB p f with
  | true => exact in57t v p f w hv hcq hf hs he h
  | false => exact in57f v p f w hv hcq hf hs he h
end Go.Proofs.YtbkcgkffafjbgaaGreatDoor
/- PeerIn of the specification. -/
namespace Go.Proofs.YtbkcgkffafjbgaaGreatDoor
open Go.RowKit
set_option maxHeartbeats 4000000
set_option maxRecDepth 20000
def inR (p : Pe) (f : Fr) : Pe × Int := if peOK p = true ∧ frB f = true then (inF p f, 0) else (pe0, 1)
theorem in_few {p : Pe} (f : Fr) (h : peOK p = true) : peFew (inF p f) := by
  obtain ⟨h1, h2, _⟩ := ok_few h
  unfold inF
  have k : (takeF p f).q.length ≤ 8 ∧ (takeF p f).i.length ≤ 101 := by
    unfold takeF
    split
    · exact ⟨h1, by simp; omega⟩
    · exact ⟨h1, by omega⟩
  unfold ackF
  split
  · exact ⟨by simp; omega, by dsimp only; omega⟩
  · exact ⟨by omega, by omega⟩
theorem inR_few (p : Pe) (f : Fr) : peFew (inR p f).1 := by
  unfold inR
  split
  · next h => exact in_few f h.1
  · exact ⟨by decide, by decide⟩
end Go.Proofs.YtbkcgkffafjbgaaGreatDoor
