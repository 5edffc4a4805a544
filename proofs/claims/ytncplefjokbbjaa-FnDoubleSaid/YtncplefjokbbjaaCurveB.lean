/- Contracts of doubling, summing and dividing in limbs. -/
import Derived.Test.YtncplefjokbbjaaCurveA
import Derived.Test.YtncplefjokbbjaaArr
import Derived.Deep.RegionHeld3
namespace Go.Proofs.Ytncplefjokbbjaa
open Go.RowKit
set_option maxHeartbeats 40000000
set_option maxRecDepth 20000
set_option linter.unusedSimpArgs false
def dX (A B : Int) : Int := A * A * (B * B)
def dZ (A B : Int) : Int := (A * A - B * B) * (A * A + 121665 * (A * A - B * B))
theorem V5_small (n : Int) : V5 n 0 0 0 0 = n := by unfold V5; omega
theorem doubled_any (p0 p1 p2 p3 p4 m0 m1 m2 m3 m4 : Int) (w : World) (hp : Car p0 p1 p2 p3 p4) (hm : Car m0 m1 m2 m3 m4) :
    Calls Try.prog 34 #[L5 p0 p1 p2 p3 p4, L5 m0 m1 m2 m3 m4] w fun e w' => (∃ x0 x1 x2 x3 x4 z0 z1 z2 z3 z4 : Int, e = .returned (.tuple #[L5 x0 x1 x2 x3 x4, L5 z0 z1 z2 z3 z4]) ∧ Car x0 x1 x2 x3 x4 ∧ Car z0 z1 z2 z3 z4 ∧ V5 x0 x1 x2 x3 x4 % pInt = (dX (V5 p0 p1 p2 p3 p4) (V5 m0 m1 m2 m3 m4)) % pInt ∧ V5 z0 z1 z2 z3 z4 % pInt = (dZ (V5 p0 p1 p2 p3 p4) (V5 m0 m1 m2 m3 m4)) % pInt) ∧ Below w.heap.size w w' := by
  have Cp := hide hp
  have Cm := hide hm
  clear hp hm
  go_enter Try.func34, Try.ntmps34
  go_wp2
  rename_i Q' K hK
  suffices main : ∀ (a0 a1 a2 a3 a4 b0 b1 b2 b3 b4 : Int) (ga gb : Nat) (W : World), Hid (Car a0 a1 a2 a3 a4) → Hid (V5 a0 a1 a2 a3 a4 % pInt = (V5 p0 p1 p2 p3 p4 * V5 p0 p1 p2 p3 p4) % pInt) → Hid (Car b0 b1 b2 b3 b4) → Hid (V5 b0 b1 b2 b3 b4 % pInt = (V5 m0 m1 m2 m3 m4 * V5 m0 m1 m2 m3 m4) % pInt) →
      A5 W ga a0 a1 a2 a3 a4 → A5 W gb b0 b1 b2 b3 b4 → w.heap.size + 1 + 1 + 1 + 1 ≤ ga → w.heap.size + 1 + 1 + 1 + 1 ≤ gb → Below (w.heap.size + 1 + 1 + 1 + 1) ((((w.alloc (.cells #[.int .u64 p0, .int .u64 p1, .int .u64 p2, .int .u64 p3, .int .u64 p4] 42)).alloc (.cells #[.int .u64 m0, .int .u64 m1, .int .u64 m2, .int .u64 m3, .int .u64 m4] 42)).alloc (.cells #[.int .u64 0, .int .u64 0, .int .u64 0, .int .u64 0, .int .u64 0] 42)).alloc (.cells #[.int .u64 0, .int .u64 0, .int .u64 0, .int .u64 0, .int .u64 0] 42)) W →
      Exit.then K Q' .normal { tmps := #[L5 p0 p1 p2 p3 p4, L5 m0 m1 m2 m3 m4, .pointer (some { block := w.heap.size, off := 0 }), .pointer (some { block := w.heap.size + 1, off := 0 }), .pointer (some { block := w.heap.size + 1 + 1, off := 0 }), .pointer (some { block := w.heap.size + 1 + 1 + 1, off := 0 }), .pointer (some { block := ga, off := 0 }), .pointer (some { block := gb, off := 0 }), undef, L5 p0 p1 p2 p3 p4, L5 p0 p1 p2 p3 p4, L5 a0 a1 a2 a3 a4, L5 m0 m1 m2 m3 m4, L5 m0 m1 m2 m3 m4, L5 b0 b1 b2 b3 b4, undef, undef, undef, undef, undef, undef, undef, undef, undef, undef, undef, undef, undef], defers := [] } W by
    go_region_held3 (fun w' => w'.cell? ⟨w.heap.size, 0, none⟩ = some (.int .u64 p0) ∧ w'.cell? ⟨w.heap.size, 1, none⟩ = some (.int .u64 p1) ∧ w'.cell? ⟨w.heap.size, 2, none⟩ = some (.int .u64 p2) ∧ w'.cell? ⟨w.heap.size, 3, none⟩ = some (.int .u64 p3) ∧ w'.cell? ⟨w.heap.size, 4, none⟩ = some (.int .u64 p4) ∧ w'.cell? ⟨w.heap.size + 1, 0, none⟩ = some (.int .u64 m0) ∧ w'.cell? ⟨w.heap.size + 1, 1, none⟩ = some (.int .u64 m1) ∧ w'.cell? ⟨w.heap.size + 1, 2, none⟩ = some (.int .u64 m2) ∧ w'.cell? ⟨w.heap.size + 1, 3, none⟩ = some (.int .u64 m3) ∧ w'.cell? ⟨w.heap.size + 1, 4, none⟩ = some (.int .u64 m4)) (first | ((simp (disch := (simp only [World.size_alloc, size_adds, sizeDrew]; omega)) only [cell_old, cell_adds, cellDrew]) <;> simp) | go_keep)
      (first
        | (go_at_call_of 52 (Value.agg #[.int .u64 p0, .int .u64 p1, .int .u64 p2, .int .u64 p3, .int .u64 p4]); refine (times_any p0 p1 p2 p3 p4 p0 p1 p2 p3 p4 _ (unhide Cp) (unhide Cp)).mono ?_; rintro e w1 ⟨⟨a0, a1, a2, a3, a4, rfl, mc, mv⟩, hb⟩; have Ca := hide mc; have Va := hide mv; clear mc mv; obtain ⟨os1, dd1, rfl⟩ := to_adds hb; clear hb)
        | (go_at_call_of 52 (Value.agg #[.int .u64 m0, .int .u64 m1, .int .u64 m2, .int .u64 m3, .int .u64 m4]); refine (times_any m0 m1 m2 m3 m4 m0 m1 m2 m3 m4 _ (unhide Cm) (unhide Cm)).mono ?_; rintro e w1 ⟨⟨b0, b1, b2, b3, b4, rfl, mc, mv⟩, hb⟩; have Cb := hide mc; have Vb := hide mv; clear mc mv; obtain ⟨os2, dd2, rfl⟩ := to_adds hb; clear hb))
    all_goals exact main _ _ _ _ _ _ _ _ _ _ _ _ _ Ca Va Cb Vb (by (repeat (first | exact A5.new (by first | omega | (simp only [World.size_alloc, size_adds, allocSize]; done) | (simp only [World.size_alloc, size_adds, allocSize]; omega)) | refine A5.alloc ?_ | refine A5.behind ?_))) (by (repeat (first | exact A5.new (by first | omega | (simp only [World.size_alloc, size_adds, allocSize]; done) | (simp only [World.size_alloc, size_adds, allocSize]; omega)) | refine A5.alloc ?_ | refine A5.behind ?_))) (by first | omega | (simp only [World.size_alloc, size_adds, allocSize]; done) | (simp only [World.size_alloc, size_adds, allocSize]; omega)) (by first | omega | (simp only [World.size_alloc, size_adds, allocSize]; done) | (simp only [World.size_alloc, size_adds, allocSize]; omega)) (by (repeat (first | exact Below.refl _ _ | (refine Below.alloc' ?_ (by first | omega | (simp only [World.size_alloc, size_adds, allocSize]; done) | (simp only [World.size_alloc, size_adds, allocSize]; omega))) | (refine Below.adds' ?_ (by first | omega | (simp only [World.size_alloc, size_adds, allocSize]; done) | (simp only [World.size_alloc, size_adds, allocSize]; omega))))))
  intro a0 a1 a2 a3 a4 b0 b1 b2 b3 b4 ga gb W Ca Va Cb Vb hA hB la lb hW
  obtain ⟨os, d, rfl⟩ := to_adds (W := ((((w.alloc (.cells #[.int .u64 p0, .int .u64 p1, .int .u64 p2, .int .u64 p3, .int .u64 p4] 42)).alloc (.cells #[.int .u64 m0, .int .u64 m1, .int .u64 m2, .int .u64 m3, .int .u64 m4] 42)).alloc (.cells #[.int .u64 0, .int .u64 0, .int .u64 0, .int .u64 0, .int .u64 0] 42)).alloc (.cells #[.int .u64 0, .int .u64 0, .int .u64 0, .int .u64 0, .int .u64 0] 42))) (by simpa only [World.size_alloc] using hW)
  clear hW
  obtain ⟨a0c, a1c, a2c, a3c, a4c⟩ := hA.cells
  obtain ⟨b0c, b1c, b2c, b3c, b4c⟩ := hB.cells
  go_wp2_with fail
  refine (minus_any a0 a1 a2 a3 a4 b0 b1 b2 b3 b4 _ (unhide Ca) (unhide Cb)).mono ?_
  rintro e w1 ⟨⟨f0, f1, f2, f3, f4, rfl, mc, mv⟩, hb⟩
  have Cf := hide mc
  have Vf := hide mv
  clear mc mv a0c a1c a2c a3c a4c b0c b1c b2c b3c b4c
  replace hA := hA.kept hb
  replace hB := hB.kept hb
  obtain ⟨os1, d1, rfl⟩ := to_adds hb
  clear hb
  rw [adds_adds] at *
  generalize os ++ os1 = os2 at *
  go_wp2
  rw [alloc_adds]
  have h3a : A5 (adds ((((w.alloc (.cells #[.int .u64 p0, .int .u64 p1, .int .u64 p2, .int .u64 p3, .int .u64 p4] 42)).alloc (.cells #[.int .u64 m0, .int .u64 m1, .int .u64 m2, .int .u64 m3, .int .u64 m4] 42)).alloc (.cells #[.int .u64 0, .int .u64 0, .int .u64 0, .int .u64 0, .int .u64 0] 42)).alloc (.cells #[.int .u64 0, .int .u64 0, .int .u64 0, .int .u64 0, .int .u64 0] 42)) (os2.push (.cells #[.int .u64 f0, .int .u64 f1, .int .u64 f2, .int .u64 f3, .int .u64 f4] 42)) d1) ga a0 a1 a2 a3 a4 := by rw [← alloc_adds]; exact hA.alloc
  clear hA
  have h3b : A5 (adds ((((w.alloc (.cells #[.int .u64 p0, .int .u64 p1, .int .u64 p2, .int .u64 p3, .int .u64 p4] 42)).alloc (.cells #[.int .u64 m0, .int .u64 m1, .int .u64 m2, .int .u64 m3, .int .u64 m4] 42)).alloc (.cells #[.int .u64 0, .int .u64 0, .int .u64 0, .int .u64 0, .int .u64 0] 42)).alloc (.cells #[.int .u64 0, .int .u64 0, .int .u64 0, .int .u64 0, .int .u64 0] 42)) (os2.push (.cells #[.int .u64 f0, .int .u64 f1, .int .u64 f2, .int .u64 f3, .int .u64 f4] 42)) d1) gb b0 b1 b2 b3 b4 := by rw [← alloc_adds]; exact hB.alloc
  clear hB
  have h3f : A5 (adds ((((w.alloc (.cells #[.int .u64 p0, .int .u64 p1, .int .u64 p2, .int .u64 p3, .int .u64 p4] 42)).alloc (.cells #[.int .u64 m0, .int .u64 m1, .int .u64 m2, .int .u64 m3, .int .u64 m4] 42)).alloc (.cells #[.int .u64 0, .int .u64 0, .int .u64 0, .int .u64 0, .int .u64 0] 42)).alloc (.cells #[.int .u64 0, .int .u64 0, .int .u64 0, .int .u64 0, .int .u64 0] 42)) (os2.push (.cells #[.int .u64 f0, .int .u64 f1, .int .u64 f2, .int .u64 f3, .int .u64 f4] 42)) d1) (allocSize (((w.alloc (.cells #[.int .u64 p0, .int .u64 p1, .int .u64 p2, .int .u64 p3, .int .u64 p4] 42)).alloc (.cells #[.int .u64 m0, .int .u64 m1, .int .u64 m2, .int .u64 m3, .int .u64 m4] 42)).alloc (.cells #[.int .u64 0, .int .u64 0, .int .u64 0, .int .u64 0, .int .u64 0] 42)) os2) f0 f1 f2 f3 f4 := by rw [← alloc_adds]; exact A5.new (by first | omega | (simp only [World.size_alloc, size_adds, allocSize]; done) | (simp only [World.size_alloc, size_adds, allocSize]; omega))
  have lf : w.heap.size + 1 + 1 + 1 + 1 ≤ allocSize (((w.alloc (.cells #[.int .u64 p0, .int .u64 p1, .int .u64 p2, .int .u64 p3, .int .u64 p4] 42)).alloc (.cells #[.int .u64 m0, .int .u64 m1, .int .u64 m2, .int .u64 m3, .int .u64 m4] 42)).alloc (.cells #[.int .u64 0, .int .u64 0, .int .u64 0, .int .u64 0, .int .u64 0] 42)) os2 := (by first | omega | (simp only [World.size_alloc, size_adds, allocSize]; done) | (simp only [World.size_alloc, size_adds, allocSize]; omega))
  generalize allocSize (((w.alloc (.cells #[.int .u64 p0, .int .u64 p1, .int .u64 p2, .int .u64 p3, .int .u64 p4] 42)).alloc (.cells #[.int .u64 m0, .int .u64 m1, .int .u64 m2, .int .u64 m3, .int .u64 m4] 42)).alloc (.cells #[.int .u64 0, .int .u64 0, .int .u64 0, .int .u64 0, .int .u64 0] 42)) os2 = ge at *
  generalize os2.push _ = os3 at *
  have na : ∀ (Y : World) (d' : Nat), Y.heap.size = w.heap.size + 1 + 1 + 1 + 1 → A5 (adds Y os3 d') ga a0 a1 a2 a3 a4 := fun Y d' hs => h3a.far (by simpa only [World.size_alloc] using la) (by simpa only [World.size_alloc] using hs)
  have na0 : ∀ (Y : World) (d' : Nat), Y.heap.size = w.heap.size + 1 + 1 + 1 + 1 → (adds Y os3 d').cell? ⟨ga, 0, none⟩ = some (.int .u64 a0) := fun Y d' hs => (na Y d' hs).cells.1
  have na1 : ∀ (Y : World) (d' : Nat), Y.heap.size = w.heap.size + 1 + 1 + 1 + 1 → (adds Y os3 d').cell? ⟨ga, 1, none⟩ = some (.int .u64 a1) := fun Y d' hs => (na Y d' hs).cells.2.1
  have na2 : ∀ (Y : World) (d' : Nat), Y.heap.size = w.heap.size + 1 + 1 + 1 + 1 → (adds Y os3 d').cell? ⟨ga, 2, none⟩ = some (.int .u64 a2) := fun Y d' hs => (na Y d' hs).cells.2.2.1
  have na3 : ∀ (Y : World) (d' : Nat), Y.heap.size = w.heap.size + 1 + 1 + 1 + 1 → (adds Y os3 d').cell? ⟨ga, 3, none⟩ = some (.int .u64 a3) := fun Y d' hs => (na Y d' hs).cells.2.2.2.1
  have na4 : ∀ (Y : World) (d' : Nat), Y.heap.size = w.heap.size + 1 + 1 + 1 + 1 → (adds Y os3 d').cell? ⟨ga, 4, none⟩ = some (.int .u64 a4) := fun Y d' hs => (na Y d' hs).cells.2.2.2.2
  have ta : ga < w.heap.size + 1 + 1 + 1 + 1 + os3.size := by have := h3a.lt; simpa only [size_adds, World.size_alloc] using this
  clear na h3a
  have nb : ∀ (Y : World) (d' : Nat), Y.heap.size = w.heap.size + 1 + 1 + 1 + 1 → A5 (adds Y os3 d') gb b0 b1 b2 b3 b4 := fun Y d' hs => h3b.far (by simpa only [World.size_alloc] using lb) (by simpa only [World.size_alloc] using hs)
  have nb0 : ∀ (Y : World) (d' : Nat), Y.heap.size = w.heap.size + 1 + 1 + 1 + 1 → (adds Y os3 d').cell? ⟨gb, 0, none⟩ = some (.int .u64 b0) := fun Y d' hs => (nb Y d' hs).cells.1
  have nb1 : ∀ (Y : World) (d' : Nat), Y.heap.size = w.heap.size + 1 + 1 + 1 + 1 → (adds Y os3 d').cell? ⟨gb, 1, none⟩ = some (.int .u64 b1) := fun Y d' hs => (nb Y d' hs).cells.2.1
  have nb2 : ∀ (Y : World) (d' : Nat), Y.heap.size = w.heap.size + 1 + 1 + 1 + 1 → (adds Y os3 d').cell? ⟨gb, 2, none⟩ = some (.int .u64 b2) := fun Y d' hs => (nb Y d' hs).cells.2.2.1
  have nb3 : ∀ (Y : World) (d' : Nat), Y.heap.size = w.heap.size + 1 + 1 + 1 + 1 → (adds Y os3 d').cell? ⟨gb, 3, none⟩ = some (.int .u64 b3) := fun Y d' hs => (nb Y d' hs).cells.2.2.2.1
  have nb4 : ∀ (Y : World) (d' : Nat), Y.heap.size = w.heap.size + 1 + 1 + 1 + 1 → (adds Y os3 d').cell? ⟨gb, 4, none⟩ = some (.int .u64 b4) := fun Y d' hs => (nb Y d' hs).cells.2.2.2.2
  have tb : gb < w.heap.size + 1 + 1 + 1 + 1 + os3.size := by have := h3b.lt; simpa only [size_adds, World.size_alloc] using this
  clear nb h3b
  have nf : ∀ (Y : World) (d' : Nat), Y.heap.size = w.heap.size + 1 + 1 + 1 + 1 → A5 (adds Y os3 d') ge f0 f1 f2 f3 f4 := fun Y d' hs => h3f.far (by simpa only [World.size_alloc] using lf) (by simpa only [World.size_alloc] using hs)
  have nf0 : ∀ (Y : World) (d' : Nat), Y.heap.size = w.heap.size + 1 + 1 + 1 + 1 → (adds Y os3 d').cell? ⟨ge, 0, none⟩ = some (.int .u64 f0) := fun Y d' hs => (nf Y d' hs).cells.1
  have nf1 : ∀ (Y : World) (d' : Nat), Y.heap.size = w.heap.size + 1 + 1 + 1 + 1 → (adds Y os3 d').cell? ⟨ge, 1, none⟩ = some (.int .u64 f1) := fun Y d' hs => (nf Y d' hs).cells.2.1
  have nf2 : ∀ (Y : World) (d' : Nat), Y.heap.size = w.heap.size + 1 + 1 + 1 + 1 → (adds Y os3 d').cell? ⟨ge, 2, none⟩ = some (.int .u64 f2) := fun Y d' hs => (nf Y d' hs).cells.2.2.1
  have nf3 : ∀ (Y : World) (d' : Nat), Y.heap.size = w.heap.size + 1 + 1 + 1 + 1 → (adds Y os3 d').cell? ⟨ge, 3, none⟩ = some (.int .u64 f3) := fun Y d' hs => (nf Y d' hs).cells.2.2.2.1
  have nf4 : ∀ (Y : World) (d' : Nat), Y.heap.size = w.heap.size + 1 + 1 + 1 + 1 → (adds Y os3 d').cell? ⟨ge, 4, none⟩ = some (.int .u64 f4) := fun Y d' hs => (nf Y d' hs).cells.2.2.2.2
  have tf : ge < w.heap.size + 1 + 1 + 1 + 1 + os3.size := by have := h3f.lt; simpa only [size_adds, World.size_alloc] using this
  clear nf h3f
  go_region_held3 (fun w' => w'.cell? ⟨ga, 0, none⟩ = some (.int .u64 a0) ∧ w'.cell? ⟨ga, 1, none⟩ = some (.int .u64 a1) ∧ w'.cell? ⟨ga, 2, none⟩ = some (.int .u64 a2) ∧ w'.cell? ⟨ga, 3, none⟩ = some (.int .u64 a3) ∧ w'.cell? ⟨ga, 4, none⟩ = some (.int .u64 a4) ∧ w'.cell? ⟨gb, 0, none⟩ = some (.int .u64 b0) ∧ w'.cell? ⟨gb, 1, none⟩ = some (.int .u64 b1) ∧ w'.cell? ⟨gb, 2, none⟩ = some (.int .u64 b2) ∧ w'.cell? ⟨gb, 3, none⟩ = some (.int .u64 b3) ∧ w'.cell? ⟨gb, 4, none⟩ = some (.int .u64 b4) ∧ w'.cell? ⟨ge, 0, none⟩ = some (.int .u64 f0) ∧ w'.cell? ⟨ge, 1, none⟩ = some (.int .u64 f1) ∧ w'.cell? ⟨ge, 2, none⟩ = some (.int .u64 f2) ∧ w'.cell? ⟨ge, 3, none⟩ = some (.int .u64 f3) ∧ w'.cell? ⟨ge, 4, none⟩ = some (.int .u64 f4)) (simp (disch := (first | (simp only [World.size_alloc, Array.size_append, sizeDrew]; done) | (simp only [World.size_alloc, Array.size_append, sizeDrew]; omega))) only [cell_adds_app, cellDrew, na0, na1, na2, na3, na4, nb0, nb1, nb2, nb3, nb4, nf0, nf1, nf2, nf3, nf4, and_self])
    (first
      | (go_at_call_of 52 (Value.agg #[.int .u64 a0, .int .u64 a1, .int .u64 a2, .int .u64 a3, .int .u64 a4]); refine (times_any a0 a1 a2 a3 a4 b0 b1 b2 b3 b4 _ (unhide Ca) (unhide Cb)).mono ?_; rintro e w1 ⟨⟨x0, x1, x2, x3, x4, rfl, mc, mv⟩, hb⟩; have Cx := hide mc; have Vx := hide mv; clear mc mv; obtain ⟨os4, dd4, rfl⟩ := to_adds hb; clear hb)
      | (go_at_call_of 52 (Value.agg #[.int .u64 121665, .int .u64 0, .int .u64 0, .int .u64 0, .int .u64 0]); refine (times_any 121665 0 0 0 0 f0 f1 f2 f3 f4 _ (by unfold Car; omega) (unhide Cf)).mono ?_; rintro e w1 ⟨⟨k0, k1, k2, k3, k4, rfl, mc, mv⟩, hb⟩; have Ck := hide mc; have Vk := hide mv; clear mc mv; obtain ⟨os5, dd5, rfl⟩ := to_adds hb; clear hb)
      | (go_at_call_of 35 (Value.agg #[.int .u64 a0, .int .u64 a1, .int .u64 a2, .int .u64 a3, .int .u64 a4]); refine (plus_any a0 a1 a2 a3 a4 k0 k1 k2 k3 k4 _ (unhide Ca) (unhide Ck)).mono ?_; rintro e w1 ⟨⟨s0, s1, s2, s3, s4, rfl, mc, mv⟩, hb⟩; have Cs := hide mc; have Vs := hide mv; clear mc mv; obtain ⟨os6, dd6, rfl⟩ := to_adds hb; clear hb)
      | (go_at_call_of 52 (Value.agg #[.int .u64 f0, .int .u64 f1, .int .u64 f2, .int .u64 f3, .int .u64 f4]); refine (times_any f0 f1 f2 f3 f4 s0 s1 s2 s3 s4 _ (unhide Cf) (unhide Cs)).mono ?_; rintro e w1 ⟨⟨z0, z1, z2, z3, z4, rfl, mc, mv⟩, hb⟩; have Cz := hide mc; have Vz := hide mv; clear mc mv; obtain ⟨os7, dd7, rfl⟩ := to_adds hb; clear hb))
  go_wp2
  refine bodyPost_ret (v := .tuple #[L5 x0 x1 x2 x3 x4, L5 z0 z1 z2 z3 z4]) (by simp [results, Try.results34, go_sem]) rfl ⟨⟨x0, x1, x2, x3, x4, z0, z1, z2, z3, z4, rfl, unhide Cx, unhide Cz, ?_, ?_⟩, ?_⟩
  · exact (unhide Vx).trans (mod_mul (unhide Va) (unhide Vb))
  · have e1 := (unhide Vf).trans (mod_sub (unhide Va) (unhide Vb))
    have e2 := (unhide Vk).trans (mod_mul rfl e1)
    rw [V5_small] at e2
    exact (unhide Vz).trans (mod_mul e1 ((unhide Vs).trans (mod_add (unhide Va) e2)))
  · refine below_adds ?_ ?_ _ _ <;> go_grown
end Go.Proofs.Ytncplefjokbbjaa
