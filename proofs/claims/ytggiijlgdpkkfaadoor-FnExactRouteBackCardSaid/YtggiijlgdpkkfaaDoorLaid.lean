/- What the row's condition on the table of quarters gives the walks: its cells. -/
import Derived.Test.YtggiijlgdpkkfaaDoorRows
import Derived.Test.YtggiijlgdpkkfaaDoorTab
import Derived.ProofKit
import Derived.Lib.LaidTab
import Derived.OpenShut
import Derived.Stop.Joined
import Derived.Lay
import Derived.MakeChecks
namespace Go.Proofs.YtggiijlgdpkkfaaDoor
open Go.ChangeShapes Go.WideShapes Go.ChangeAt Go.RowKit
def qRows : List (List Int) := [[0, 4, 8, 12], [1, 5, 9, 13], [2, 6, 10, 14], [3, 7, 11, 15], [0, 5, 10, 15], [1, 6, 11, 12], [2, 7, 8, 13], [3, 4, 9, 14]]
theorem qRows_at : ∀ j, j < 32 → (qRows.getD (j / 4) []).getD (j % 4) 0 = qTab.getD j 0 := by decide
theorem qRows_len : ∀ i, i < 8 → (qRows.getD i []).length = 4 := by decide
theorem gQ : Tryd.prog.globalNamed "loop.example/g00254/impl.quarters" = some 0 := by kernel_rfl
theorem tQ : (Tryd.prog.globals[0]?).map (·.type) = some 69 := by kernel_rfl
theorem cells3q : Tryd.prog.cellsOf 3 = 1 := by kernel_rfl
theorem cells66 : Tryd.prog.cellsOf 68 = 4 := by kernel_rfl
theorem cells67 : Tryd.prog.cellsOf 69 = 32 := by kernel_rfl
theorem getD_some (l : List Int) (i : Nat) (h : i < l.length) : l[i]? = some (l.getD i 0) := by
  rw [List.getD_eq_getElem?_getD, List.getElem?_eq_getElem h]; rfl
theorem rows_of {H : Type} {enc : TypeId × Value → H} {w : World} {base : Nat} {sp : Nat → Bool} {held : Bool} {fuel : Nat} {cs : List Value} {p : List MemPlace}
    (h : DataW.trod enc Tryd.prog w base sp held fuel 69 cs = some (.agg (qRows.map fun zs => .agg (zs.map fun z => .lit (.int .i64 z))), p)) : cs = qTab.map (Value.int .i64) := by
  cases fuel with
  | zero => simp [DataW.trod] at h
  | succ fuel =>
    simp only [DataW.trod, Tryd.underlying69, cells66, cells67] at h
    split at h
    · rename_i hl
      obtain ⟨xs, hm, hx⟩ := Option.map_eq_some_iff.1 h
      have hxs : xs.map (·.1) = qRows.map fun zs => (DataW.agg (zs.map fun z => .lit (.int .i64 z)) : DataW H) := by
        have := congrArg Prod.fst hx
        simpa using this
      have hl2 : cs.length = 32 := by simpa using hl
      apply List.ext_getElem?
      intro j
      by_cases hj : j < 32
      · obtain ⟨b, hb, hf⟩ := Lib.mapM_at hm (j / 4) (j / 4) (by rw [List.getElem?_range (by omega)])
        have hi : j / 4 < qRows.length := by show j / 4 < 8; omega
        have h2 : (xs.map (·.1))[j / 4]? = some b.1 := by simp [hb]
        rw [hxs, List.getElem?_map, List.getElem?_eq_getElem hi] at h2
        have e2 : qRows[j / 4] = qRows.getD (j / 4) [] := by rw [List.getD_eq_getElem?_getD, List.getElem?_eq_getElem hi]; rfl
        rw [e2] at h2
        obtain ⟨b1, b2⟩ := b
        simp only [Option.map_some, Option.some.injEq] at h2
        subst h2
        have hc := Lib.cells_of_tab Tryd.underlying68 Tryd.underlying3 cells3q cells66 hf
        have e3 : cs[j]? = ((cs.drop (j / 4 * 4)).take 4)[j % 4]? := by
          rw [List.getElem?_take_of_lt (by omega), List.getElem?_drop]
          congr 1
          omega
        rw [e3, hc, List.getElem?_map, List.getElem?_map]
        have l1 := qRows_len (j / 4) (by omega)
        have l2 : j < qTab.length := hj
        have r := qRows_at j hj
        rw [getD_some _ _ (by omega), getD_some _ _ l2, r]
      · rw [List.getElem?_eq_none (by omega), List.getElem?_eq_none (by simp [qTab]; omega)]
    · cases h
theorem of_laid {W : World} (h : laidMetH Tryd.prog [("loop.example/g00254/impl.quarters", Rows.laid_loop_example_g00254_impl_quarters)] W) : ∃ t fr, W.heap[0]? = some (.cells qArr t fr) := by
  rw [MakeChecks.laidMetH_plain _ _ _ (by kernel_rfl)] at h
  obtain ⟨ps, ⟨g', t', cs, fuel, p, q, hg', ht', hvar, hd, _, _⟩, _⟩ := h
  obtain rfl := Option.some.inj (gQ.symm.trans hg')
  obtain rfl := Option.some.inj (tQ.symm.trans ht')
  have := rows_of hd
  have hv : W.var? Tryd.prog "loop.example/g00254/impl.quarters" = some qArr := by
    rw [hvar]
    congr 1
    exact Array.ext' this
  simp only [World.var?, gQ, Option.bind_some] at hv
  split at hv
  · rename_i cs t fr e; cases hv; exact ⟨t, fr, e⟩
  · cases hv
end Go.Proofs.YtggiijlgdpkkfaaDoor
