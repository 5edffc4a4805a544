/- A frame taken, by the specification. -/
import Derived.Test.YthonnlifgdnacaaIns
import Derived.Test.YthonnlifgdnacaaInf
namespace Go.Proofs.Ythonnlifgdnacaa
open Go.RowKit
theorem in57 (v : Value) (p : Pe) (f : Fr) (w : World) (hv : peV w v p) (hcq : capQ v p) (hf : peFew p) (hs : 0 ≤ p.s ∧ p.s ≤ 1048576) (he : 0 ≤ p.e ∧ p.e ≤ 1048576) :
    Calls Try.prog 57 #[v, frV f] w fun e w' => ∃ r, e = .returned r ∧ peV w' r (inF p f) ∧ capQ r (inF p f) ∧ farP w v r ∧ Below w.heap.size w w' := by
  cases h : awB p f with
  | true => exact in57t v p f w hv hcq hf hs he h
  | false => exact in57f v p f w hv hcq hf hs he h
end Go.Proofs.Ythonnlifgdnacaa
