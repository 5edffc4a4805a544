/- What is laid for errors.errorType gives its one cell; a world in which it is laid. -/
import Derived.Test.YtgdohkemamlnhaaDoorRows
import Derived.ChangeSame
import Derived.ChangeVars
import Derived.JoinedOf
import Derived.RowKit
import Derived.RowKitTokens
import Derived.LaidLaws
import Derived.LaidHandle
import Derived.Stop.Joined
namespace Go.Proofs.YtgdohkemamlnhaaDoor
open Go.ChangeShapes Go.WideShapes Go.RowKit
abbrev etL : List (String × DataW Unit) := [("errors.errorType", Rows.laid_errors_errorType)]
theorem han_et : Tryd.prog.globalNamed "errors.errorType" = some 0 := by kernel_rfl
theorem han_rt : (Tryd.prog.cutTypes.find? (·.1 == "internal/reflectlite.rtype")).map (·.2) = some 108 := by kernel_rfl
theorem han_row : ((List.range 150).filter fun t => Tryd.prog.rowNamed t [101, 114, 114, 111, 114]) = [72] := by kernel_rfl
theorem han_size : Tryd.prog.types.size = 150 := by kernel_rfl
theorem handle_of_laid {W : World} (h : laidMetH Tryd.prog etL W) : W.cell? ⟨0, 0, none⟩ = some (.iface 108 (.agg #[.pointer (some ⟨1, 72, none⟩)])) := by
  have h' : laidMet Tryd.prog [] W ∧ handlesMet Tryd.prog etL W := h
  obtain ⟨name, u, ty, e1, e2, e3, e4, e5⟩ := h'.2 _ (List.mem_singleton.2 rfl)
  have en : name = [101, 114, 114, 111, 114] := (Option.some.inj e1).symm
  subst en
  obtain rfl := Option.some.inj (han_rt.symm.trans e2)
  have hm : ty ∈ (List.range 150).filter fun t => Tryd.prog.rowNamed t [101, 114, 114, 111, 114] := List.mem_filter.2 ⟨List.mem_range.2 (by rw [← han_size]; exact e3), e4⟩
  rw [han_row] at hm
  obtain rfl := List.mem_singleton.1 hm
  have hh : typeHandle Tryd.prog 72 = .pointer (some ⟨1, 72, none⟩) := by kernel_rfl
  rw [hh] at e5
  simpa using World.var?_cell han_et e5 0
def hanObj : Obj := .cells #[.iface 108 (.agg #[.pointer (some ⟨1, 72, none⟩)])] 100 (0, 0)
theorem hanWorld_met (os : Os) (args : Array Value) : laidMetH Tryd.prog etL (({ World.holding Tryd.prog os ⟨#[], #[], []⟩ with heap := (World.holding Tryd.prog os ⟨#[], #[], []⟩).heap.setIfInBounds 0 hanObj } : World).forCall (fun _ _ => 0) ⟨#[], args, []⟩).memory :=
  laidMetH_of_parts (laidMet_nil _ _) (by kernel_rfl)
end Go.Proofs.YtgdohkemamlnhaaDoor
