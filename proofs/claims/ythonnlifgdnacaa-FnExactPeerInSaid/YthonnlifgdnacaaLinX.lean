/- The law of PeerIn over a frame that came in. -/
import Derived.Test.YthonnlifgdnacaaLin
namespace Go.Proofs.Ythonnlifgdnacaa
open Go.RowKit
set_option maxRecDepth 20000
theorem law_inX (w : World) (v : Value) (p : Pe) (hv : peV w v p) (hf : peFits p) (u : Value) (f : Fr) (hu : u = frV f) (hb : f.b.size ≤ maxLen) :
    Calls Try.prog 9 #[v, u] w fun e w' => e = .returned (.bool true) ∧ Below w.heap.size w w' := by
  subst hu
  exact law_in w v p hv hf f hb
end Go.Proofs.Ythonnlifgdnacaa
