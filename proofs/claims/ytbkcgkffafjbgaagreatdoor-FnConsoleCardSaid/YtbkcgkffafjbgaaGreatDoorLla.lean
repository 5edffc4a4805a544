/- What the row's condition on the names of both who talk and on the codes' words gives the walks: their cells. -/
import Derived.Test.YtbkcgkffafjbgaaGreatDoorRows
import Derived.Test.YtbkcgkffafjbgaaGreatDoorGk
import Derived.ProofKit
import Derived.Lib.LaidTab
import Derived.OpenShut
import Derived.Stop.Joined
import Derived.Lay
import Derived.MakeChecks
import Derived.Shelf.Vars
namespace Go.Proofs.YtbkcgkffafjbgaaGreatDoor
open Go.ChangeShapes Go.WideShapes Go.ChangeAt Go.RowKit
theorem cells_of_texts {H : Type} {enc : TypeId × Value → H} {P : Program} {w : World} {base : Nat} {sp : Nat → Bool} {held : Bool} {fuel : Nat} {t e : TypeId} {n : Nat} {cs : List Value} {zs : List (List UInt8)} {p : List MemPlace}
    (ht : P.underlying t = some (.array n e)) (he : P.underlying e = some .string) (hce : P.cellsOf e = 1) (hct : P.cellsOf t = n)
    (h : DataW.trod enc P w base sp held fuel t cs = some (.agg (zs.map fun z => .lit (.string z)), p)) : cs = zs.map fun z => Value.string ⟨z.toArray⟩ := by
  cases fuel with
  | zero => simp [DataW.trod] at h
  | succ fuel =>
    simp only [DataW.trod, ht, hce, hct, Nat.mul_one] at h
    split at h
    · rename_i hl
      obtain ⟨xs, hm, hx⟩ := Option.map_eq_some_iff.1 h
      have hxs : xs.map (·.1) = zs.map fun z => (DataW.lit (.string z) : DataW H) := by
        have := congrArg Prod.fst hx
        simpa using this
      have hxl : xs.length = n := by simpa using Lib.mapM_length hm
      have hzl : zs.length = n := by
        have := congrArg List.length hxs
        simp at this
        omega
      apply List.ext_getElem?
      intro i
      by_cases hi : i < n
      · obtain ⟨b, hb, hf⟩ := Lib.mapM_at hm i i (by simp [hi])
        obtain ⟨z, hc, rfl, _⟩ := DataW.trod_string he hf
        have h1 : cs[i]? = some (.string z) := by
          have := congrArg (·[0]?) hc
          simpa [List.getElem?_take, List.getElem?_drop] using this
        have h2 : (xs.map (·.1))[i]? = some (DataW.lit (.string z.data.toList) : DataW H) := by simp [hb]
        rw [hxs] at h2
        simp only [List.getElem?_map, Option.map_eq_some_iff, DataW.lit.injEq, Lit.string.injEq] at h2
        obtain ⟨z', hz', rfl⟩ := h2
        simp [h1, hz']
      · rw [List.getElem?_eq_none (by omega), List.getElem?_eq_none (by simp; omega)]
    · cases h

abbrev laidL : List (String × DataW Unit) := [("math/bits.deBruijn32tab", Rows.laid_math_bits_deBruijn32tab), ("math/bits.deBruijn64tab", Rows.laid_math_bits_deBruijn64tab), ("internal/strconv.uint64pow10", Rows.laid_internal_strconv_uint64pow10), ("unicode/utf8.acceptRanges", Rows.laid_unicode_utf8_acceptRanges), ("loop.example/g00254/impl.codeWords", Rows.laid_loop_example_g00254_impl_codeWords), ("loop.example/g00254/impl.talkerNames", Rows.laid_loop_example_g00254_impl_talkerNames), ("unicode/utf8.first", Rows.laid_unicode_utf8_first)]
theorem gNames : Tryz.prog.globalNamed "loop.example/g00254/impl.talkerNames" = some 1 := by kernel_rfl
theorem tNames : (Tryz.prog.globals[1]?).map (·.type) = some 115 := by kernel_rfl
theorem gWords : Tryz.prog.globalNamed "loop.example/g00254/impl.codeWords" = some 0 := by kernel_rfl
theorem tWords : (Tryz.prog.globals[0]?).map (·.type) = some 113 := by kernel_rfl
theorem cells9 : Tryz.prog.cellsOf 9 = 1 := by kernel_rfl
theorem cells115 : Tryz.prog.cellsOf 115 = 2 := by kernel_rfl
theorem cells113 : Tryz.prog.cellsOf 113 = 20 := by kernel_rfl
def namesArr : Array Value := #[.string ⟨#[97]⟩, .string ⟨#[98]⟩]
def wordsArr : Array Value := (cws.map fun l => Value.string (bs l)).toArray
theorem of_laid {W : World} (h : laidMetH Tryz.prog laidL W) : Gl W := by
  rw [MakeChecks.laidMetH_plain _ _ _ (by kernel_rfl)] at h
  obtain ⟨ps, hv, _⟩ := h
  obtain ⟨g1, t1, cs1, fuel1, p1, q1, _, _, _, _, hv, _⟩ := hv
  obtain ⟨g1, t1, cs1, fuel1, p1, q1, _, _, _, _, hv, _⟩ := hv
  obtain ⟨g1, t1, cs1, fuel1, p1, q1, _, _, _, _, hv, _⟩ := hv
  obtain ⟨g1, t1, cs1, fuel1, p1, q1, _, _, _, _, hv, _⟩ := hv
  obtain ⟨g0, t0, cs0, fuel0, p0, q0, hg0, ht0, hvar0, hd0, hr, _⟩ := hv
  obtain ⟨g', t', cs, fuel, p, q, hg', ht', hvar, hd, _, _⟩ := hr
  obtain rfl := Option.some.inj (gNames.symm.trans hg')
  obtain rfl := Option.some.inj (tNames.symm.trans ht')
  obtain rfl := Option.some.inj (gWords.symm.trans hg0)
  obtain rfl := Option.some.inj (tWords.symm.trans ht0)
  have e1 := cells_of_texts (zs := [[97], [98]]) Tryz.underlying115 Tryz.underlying9 cells9 cells115 hd
  have e0 := cells_of_texts (zs := cws) Tryz.underlying113 Tryz.underlying9 cells9 cells113 hd0
  have hv : W.var? Tryz.prog "loop.example/g00254/impl.talkerNames" = some namesArr := by
    rw [hvar]
    congr 1
    exact Array.ext' e1
  have hv0 : W.var? Tryz.prog "loop.example/g00254/impl.codeWords" = some wordsArr := by
    rw [hvar0]
    congr 1
    exact Array.ext' e0
  refine ⟨?_, ?_⟩
  · simp only [World.var?, gNames, Option.bind_some] at hv
    split at hv
    · rename_i cs t fr e; cases hv; exact ⟨t, fr, e⟩
    · cases hv
  · simp only [World.var?, gWords, Option.bind_some] at hv0
    split at hv0
    · rename_i cs t fr e; cases hv0; exact ⟨t, fr, e⟩
    · cases hv0
theorem max_len {W : World} (h : W.ShapedOpen Tryz.prog) : ∃ m, W.cell? ⟨2, 0, none⟩ = some (.int .i64 m) :=
  cell_of_shapedOpen_int (zero := #[.int .i64 0]) (t := 3) h (of_decide_eq_true (by kernel_rfl)) (by kernel_rfl) rfl (by kernel_rfl) (by kernel_rfl) Tryz.underlying3
end Go.Proofs.YtbkcgkffafjbgaaGreatDoor
