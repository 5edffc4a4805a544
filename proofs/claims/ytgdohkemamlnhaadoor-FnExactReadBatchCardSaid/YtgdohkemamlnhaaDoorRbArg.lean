/- The law of ReadBatch over an argument of bytes as it came in. -/
import Derived.Test.YtgdohkemamlnhaaDoorArg
import Derived.Test.YtgdohkemamlnhaaDoorLrb
namespace Go.Proofs.YtgdohkemamlnhaaDoor
open Go.RowKit
theorem rb_law_at (A : Option Addr) (n cap : Nat) (w : World) (hc : codeAt w A n) (hg : w.cell? ⟨0, 0, none⟩ = some (.iface 108 (.agg #[.pointer (some ⟨1, 72, none⟩)]))) :
    Calls Tryd.prog 4 #[.slice A n cap] w fun e w' => e = .returned (.bool true) ∧ Below w.heap.size w w' := by
  obtain ⟨xs, _, hb⟩ := bytes_of_code cap hc
  exact law_rb_at w _ xs hb hg
end Go.Proofs.YtgdohkemamlnhaaDoor
