/- One act of two, by the specification. -/
import Derived.Test.YthonnlifgdnacaaStp
import Derived.Test.YthonnlifgdnacaaSts
import Derived.Test.YthonnlifgdnacaaSth
namespace Go.Proofs.Ythonnlifgdnacaa
open Go.RowKit
set_option maxHeartbeats 4000000
set_option maxRecDepth 20000
set_option linter.unusedVariables false
theorem step48 (v : Value) (z : Tw) (a : Ta) (w : World) (hv : twV w v z) (hx : peFew z.x) (hy : peFew z.y) (ht : a.t.size ≤ maxLen) (sx : 0 ≤ z.x.s ∧ z.x.s ≤ 1048576) (ex : 0 ≤ z.x.e ∧ z.x.e ≤ 1048576) (sy : 0 ≤ z.y.s ∧ z.y.s ≤ 1048576) (ey : 0 ≤ z.y.e ∧ z.y.e ≤ 1048576) :
    Calls Try.prog 48 #[v, taV a] w fun e w' => ∃ r, e = .returned (.tuple #[r, .int .i64 (stepF z a).2]) ∧ twV w' r (stepF z a).1 ∧ (∀ b, b < w.heap.size → offT b w v → offT b w' r) ∧ Below w.heap.size w w' := by
  by_cases h1 : a.k = 1
  · by_cases hw : okW a.w = true
    · rcases okW_cases hw with h | h
      · exact step_say0 v z a w hv hx hy ht sx ex sy ey h1 h
      · exact step_say1 v z a w hv hx hy ht sx ex sy ey h1 h
    · exact step_say_no v z a w hv hx hy ht sx ex sy ey h1 (by simpa using hw)
  by_cases h2 : a.k = 2
  · cases hla : a.la <;> cases hlb : a.lb
    · exact step_round00 v z a w hv hx hy ht sx ex sy ey h2 hla hlb
    · exact step_round01 v z a w hv hx hy ht sx ex sy ey h2 hla hlb
    · exact step_round10 v z a w hv hx hy ht sx ex sy ey h2 hla hlb
    · exact step_round11 v z a w hv hx hy ht sx ex sy ey h2 hla hlb
  by_cases h3 : a.k = 3
  · by_cases hw : okW a.w = true
    · rcases okW_cases hw with h | h
      · by_cases hq : z.x.q.length = 0
        · exact step_hang0e v z a w hv hx hy ht sx ex sy ey h3 h hq
        · exact step_hang0f v z a w hv hx hy ht sx ex sy ey h3 h hq
      · by_cases hq : z.y.q.length = 0
        · exact step_hang1e v z a w hv hx hy ht sx ex sy ey h3 h hq
        · exact step_hang1f v z a w hv hx hy ht sx ex sy ey h3 h hq
    · exact step_hang_no v z a w hv hx hy ht sx ex sy ey h3 (by simpa using hw)
  exact step_other v z a w hv hx hy ht sx ex sy ey h1 h2 h3
end Go.Proofs.Ythonnlifgdnacaa
