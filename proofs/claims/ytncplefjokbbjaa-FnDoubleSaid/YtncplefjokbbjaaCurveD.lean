/- The contract of dividing in limbs. -/
import Derived.Test.YtncplefjokbbjaaCurveA
import Derived.Test.YtncplefjokbbjaaArrB
import Derived.Deep.RegionHeld3
namespace Go.Proofs.Ytncplefjokbbjaa
open Go.RowKit
set_option maxHeartbeats 4000000
set_option maxRecDepth 20000
set_option linter.unusedSimpArgs false
theorem divided_any (x0 x1 x2 x3 x4 z0 z1 z2 z3 z4 : Int) (w : World) (hx : Car x0 x1 x2 x3 x4) (hz : Car z0 z1 z2 z3 z4) :
    Calls Try.prog 33 #[L5 x0 x1 x2 x3 x4, L5 z0 z1 z2 z3 z4] w fun e w' => (∃ X0 X1 X2 X3 X4 : Int, e = .returned (L5 X0 X1 X2 X3 X4) ∧ Car X0 X1 X2 X3 X4 ∧ V5 X0 X1 X2 X3 X4 % pInt = (V5 x0 x1 x2 x3 x4 * V5 z0 z1 z2 z3 z4 ^ numN lessTwo) % pInt) ∧ Below w.heap.size w w' := by
  have Cx := hide hx
  have Cz := hide hz
  clear hx hz
  go_enter Try.func33, Try.ntmps33
  go_wp2
  go_region_held3 (fun w' => w'.cell? ⟨w.heap.size, 0, none⟩ = some (.int .u64 x0) ∧ w'.cell? ⟨w.heap.size, 1, none⟩ = some (.int .u64 x1) ∧ w'.cell? ⟨w.heap.size, 2, none⟩ = some (.int .u64 x2) ∧ w'.cell? ⟨w.heap.size, 3, none⟩ = some (.int .u64 x3) ∧ w'.cell? ⟨w.heap.size, 4, none⟩ = some (.int .u64 x4) ∧ w'.cell? ⟨w.heap.size + 1, 0, none⟩ = some (.int .u64 z0) ∧ w'.cell? ⟨w.heap.size + 1, 1, none⟩ = some (.int .u64 z1) ∧ w'.cell? ⟨w.heap.size + 1, 2, none⟩ = some (.int .u64 z2) ∧ w'.cell? ⟨w.heap.size + 1, 3, none⟩ = some (.int .u64 z3) ∧ w'.cell? ⟨w.heap.size + 1, 4, none⟩ = some (.int .u64 z4)) (simp (disch := (first | (simp only [World.size_alloc, size_adds, sizeDrew]; done) | (simp only [World.size_alloc, size_adds, sizeDrew]; omega))) only [cell_old, cell_adds, cellDrew, cellE0, cellE1, cellE2, cellE3, cellE4, and_self])
    (first
      | (go_at_call_of 53 (Value.agg #[.int .u64 z0, .int .u64 z1, .int .u64 z2, .int .u64 z3, .int .u64 z4]); refine (power_any z0 z1 z2 z3 z4 lessTwo less_size _ (unhide Cz)).mono ?_; rintro e w1 ⟨⟨g0, g1, g2, g3, g4, rfl, mc, mv⟩, hb⟩; have Cg := hide mc; have Vg := hide mv; clear mc mv; obtain ⟨os1, dd1, rfl⟩ := to_adds hb; clear hb)
      | (go_at_call_of 52 (Value.agg #[.int .u64 x0, .int .u64 x1, .int .u64 x2, .int .u64 x3, .int .u64 x4]); refine (times_any x0 x1 x2 x3 x4 g0 g1 g2 g3 g4 _ (unhide Cx) (unhide Cg)).mono ?_; rintro e w1 ⟨⟨X0, X1, X2, X3, X4, rfl, mc, mv⟩, hb⟩; have CX := hide mc; have VX := hide mv; clear mc mv; obtain ⟨os2, dd2, rfl⟩ := to_adds hb; clear hb))
  go_wp2
  refine bodyPost_ret (v := L5 X0 X1 X2 X3 X4) (by simp [results, Try.results33, go_sem]) rfl ⟨⟨X0, X1, X2, X3, X4, rfl, unhide CX, ?_⟩, ?_⟩
  · exact (unhide VX).trans (mod_mul rfl (unhide Vg))
  · refine below_adds ?_ ?_ _ _ <;> go_grown
end Go.Proofs.Ytncplefjokbbjaa
