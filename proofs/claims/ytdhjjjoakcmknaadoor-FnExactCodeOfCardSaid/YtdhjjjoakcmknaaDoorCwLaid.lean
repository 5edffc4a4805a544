/- What the row's condition on the table of words gives the walks: its cells. -/
import Derived.Test.YtdhjjjoakcmknaaDoorRows
import Derived.Test.YtdhjjjoakcmknaaDoorCwPlain
import Derived.ProofKit
import Derived.Lib.LaidTab
import Derived.OpenShut
import Derived.Stop.Joined
import Derived.Lay
import Derived.MakeChecks
namespace Go.Proofs.YtdhjjjoakcmknaaDoor
open Go.ChangeShapes Go.WideShapes Go.ChangeAt Go.RowKit

theorem cells_of_texts {H : Type} {enc : TypeId × Value → H} {P : Program} {w : World} {base : Nat} {sp : Nat → Bool} {held : Bool} {fuel : Nat} {t e : TypeId} {n : Nat} {cs : List Value} {zs : List (List UInt8)} {p : List MemPlace}
    (ht : P.underlying t = some (.array n e)) (he : P.underlying e = some .string) (hce : P.cellsOf e = 1) (hct : P.cellsOf t = n)
    (h : DataW.trod enc P w base sp held fuel t cs = some (.agg (zs.map fun z => .lit (.string z)), p)) : cs = zs.map fun z => Value.string ⟨z.toArray⟩ := by
  cases fuel with
  | zero => simp [DataW.trod] at h
  | succ fuel =>
    simp only [DataW.trod, ht, hce, hct, Nat.mul_one] at h
    split at h
    · rename_i hl
      obtain ⟨xs, hm, hx⟩ := Option.map_eq_some_iff.1 h
      have hxs : xs.map (·.1) = zs.map fun z => (DataW.lit (.string z) : DataW H) := by
        have := congrArg Prod.fst hx
        simpa using this
      have hxl : xs.length = n := by simpa using Lib.mapM_length hm
      have hzl : zs.length = n := by
        have := congrArg List.length hxs
        simp at this
        omega
      apply List.ext_getElem?
      intro i
      by_cases hi : i < n
      · obtain ⟨b, hb, hf⟩ := Lib.mapM_at hm i i (by simp [hi])
        obtain ⟨z, hc, rfl, _⟩ := DataW.trod_string he hf
        have h1 : cs[i]? = some (.string z) := by
          have := congrArg (·[0]?) hc
          simpa [List.getElem?_take, List.getElem?_drop] using this
        have h2 : (xs.map (·.1))[i]? = some (DataW.lit (.string z.data.toList) : DataW H) := by simp [hb]
        rw [hxs] at h2
        simp only [List.getElem?_map, Option.map_eq_some_iff, DataW.lit.injEq, Lit.string.injEq] at h2
        obtain ⟨z', hz', rfl⟩ := h2
        simp [h1, hz']
      · rw [List.getElem?_eq_none (by omega), List.getElem?_eq_none (by simp; omega)]
    · cases h

theorem gWords : Tryd.prog.globalNamed "loop.example/g00254/impl.codeWords" = some 0 := by kernel_rfl
theorem tWords : (Tryd.prog.globals[0]?).map (·.type) = some 45 := by kernel_rfl
theorem cells9 : Tryd.prog.cellsOf 9 = 1 := by kernel_rfl
theorem cells45 : Tryd.prog.cellsOf 45 = 20 := by kernel_rfl
def wordsArr : Array Value := (codeWords.map fun b => Value.string ⟨b.toArray⟩).toArray

theorem of_laid {W : World} (h : laidMetH Tryd.prog [("loop.example/g00254/impl.codeWords", Rows.laid_loop_example_g00254_impl_codeWords)] W) : W.var? Tryd.prog "loop.example/g00254/impl.codeWords" = some wordsArr := by
  rw [MakeChecks.laidMetH_plain _ _ _ (by kernel_rfl)] at h
  obtain ⟨ps, ⟨g', t', cs, fuel, p, q, hg', ht', hvar, hd, _, _⟩, _⟩ := h
  obtain rfl := Option.some.inj (gWords.symm.trans hg')
  obtain rfl := Option.some.inj (tWords.symm.trans ht')
  have := cells_of_texts (zs := codeWords) Tryd.underlying45 Tryd.underlying9 cells9 cells45 hd
  rw [hvar]
  congr 1
  exact Array.ext' this

theorem laid_cell {W : World} (h : W.var? Tryd.prog "loop.example/g00254/impl.codeWords" = some wordsArr) (j : Nat) (hj : j < 20) : W.cell? ⟨0, j, none⟩ = some (.string (wordAt j)) := by
  rw [World.var?_cell gWords h j]
  have hl : j < (codeWords.map fun b => Value.string ⟨b.toArray⟩).length := by simpa [codeWords] using hj
  show (codeWords.map fun b => Value.string ⟨b.toArray⟩).toArray[j]? = _
  rw [List.getElem?_toArray, List.getElem?_eq_getElem hl, words_at j hj]

theorem laid_row {W : World} (h : W.var? Tryd.prog "loop.example/g00254/impl.codeWords" = some wordsArr) : ∃ t fr, W.heap[0]? = some (.cells wordsArr t fr) := by
  simp only [World.var?, gWords, Option.bind_some] at h
  split at h
  · rename_i cs t fr e; cases h; exact ⟨t, fr, e⟩
  · cases h
end Go.Proofs.YtdhjjjoakcmknaaDoor
