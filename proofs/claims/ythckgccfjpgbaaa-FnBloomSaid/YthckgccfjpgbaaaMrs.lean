/- BloomMerge: the specification's side. -/
import Derived.Test.YthckgccfjpgbaaaMrg
namespace Go.Proofs.Ythckgccfjpgbaaa
open Go.RowKit
set_option maxHeartbeats 4000000
set_option maxRecDepth 20000
theorem mixG_at {α : Type} (d : α) (r xs : List α) (j : Nat) (h : r.length = xs.length) (hj : j < xs.length) : (mixG r xs j).getD j d = xs.getD j d := by
  unfold mixG
  rw [List.getD_eq_getElem?_getD, List.getElem?_append_right (by simp; omega), List.getElem?_drop, List.getD_eq_getElem?_getD]
  congr 2
  simp; omega
theorem merged_at {x y : Blm} {M k : Nat} (hM : x.w.toNat = M) (hk : k < x.s.length * M) : (bitsOf M x.s.length (mgF x y x.s.length)).getD k false = (x.b.getD k false || y.b.getD k false) := by
  rw [bitsOf_at hk]
  have h1 : k / M < x.s.length := Nat.div_lt_of_lt_mul (by rw [Nat.mul_comm]; exact hk)
  have h2 : k / M * M + k % M = k := by rw [Nat.mul_comm]; exact Nat.div_add_mod k M
  unfold mgF
  rw [hM, h2, decide_eq_true h1, Bool.true_and]
theorem merge40 (v u : Value) (x y : Blm) (w : World) (hv : blmV w v x) (hu : blmV w u y) (hn : x.s.length ≤ 2097152) (hn' : x.b.length ≤ 2097152) (hm : y.s.length ≤ 2097152) (hm' : y.b.length ≤ 2097152) :
    Calls Try.prog 40 #[v, u] w fun e w' => outX w (mergeR x y).1 (mergeR x y).2 e w' := by
  obtain ⟨a, b, rfl, ha, hb⟩ := hv
  obtain ⟨a', b', rfl, ha', hb'⟩ := hu
  obtain ⟨A, ca, rfl⟩ := ha.slice
  obtain ⟨A2, cb, rfl⟩ := hb.slice
  obtain ⟨E, ce, rfl⟩ := ha'.slice
  obtain ⟨E2, cf, rfl⟩ := hb'.slice
  have B0 : Below w.heap.size w (w.alloc (.cells #[.int .i64 x.p, .int .i64 x.w, .slice A x.s.length ca, .slice A2 x.b.length cb] 26)) := bl_al (Below.refl _ _)
  have e0 : (w.alloc (.cells #[.int .i64 x.p, .int .i64 x.w, .slice A x.s.length ca, .slice A2 x.b.length cb] 26)).heap.size = w.heap.size + 1 := by simp
  have B1 : Below (w.alloc (.cells #[.int .i64 x.p, .int .i64 x.w, .slice A x.s.length ca, .slice A2 x.b.length cb] 26)).heap.size (w.alloc (.cells #[.int .i64 x.p, .int .i64 x.w, .slice A x.s.length ca, .slice A2 x.b.length cb] 26)) ((w.alloc (.cells #[.int .i64 x.p, .int .i64 x.w, .slice A x.s.length ca, .slice A2 x.b.length cb] 26)).alloc (.cells #[.int .i64 y.p, .int .i64 y.w, .slice E y.s.length ce, .slice E2 y.b.length cf] 26)) := bl_al (Below.refl _ _)
  have e1 : ((w.alloc (.cells #[.int .i64 x.p, .int .i64 x.w, .slice A x.s.length ca, .slice A2 x.b.length cb] 26)).alloc (.cells #[.int .i64 y.p, .int .i64 y.w, .slice E y.s.length ce, .slice E2 y.b.length cf] 26)).heap.size = w.heap.size + 1 + 1 := by simp
  have B2 : Below ((w.alloc (.cells #[.int .i64 x.p, .int .i64 x.w, .slice A x.s.length ca, .slice A2 x.b.length cb] 26)).alloc (.cells #[.int .i64 y.p, .int .i64 y.w, .slice E y.s.length ce, .slice E2 y.b.length cf] 26)).heap.size ((w.alloc (.cells #[.int .i64 x.p, .int .i64 x.w, .slice A x.s.length ca, .slice A2 x.b.length cb] 26)).alloc (.cells #[.int .i64 y.p, .int .i64 y.w, .slice E y.s.length ce, .slice E2 y.b.length cf] 26)) (((w.alloc (.cells #[.int .i64 x.p, .int .i64 x.w, .slice A x.s.length ca, .slice A2 x.b.length cb] 26)).alloc (.cells #[.int .i64 y.p, .int .i64 y.w, .slice E y.s.length ce, .slice E2 y.b.length cf] 26)).alloc (.cells #[.int .i64 0, .int .i64 0, .slice none 0 0, .slice none 0 0] 26)) := bl_al (Below.refl _ _)
  have C := ((bc_new w x.p x.w (.slice A x.s.length ca) (.slice A2 x.b.length cb) 26).below B1).below B2
  have D := (bc_new (w.alloc (.cells #[.int .i64 x.p, .int .i64 x.w, .slice A x.s.length ca, .slice A2 x.b.length cb] 26)) y.p y.w (.slice E y.s.length ce) (.slice E2 y.b.length cf) 26).below B2
  have N1 := hide (heap_alloc_new ((w.alloc (.cells #[.int .i64 x.p, .int .i64 x.w, .slice A x.s.length ca, .slice A2 x.b.length cb] 26)).alloc (.cells #[.int .i64 y.p, .int .i64 y.w, .slice E y.s.length ce, .slice E2 y.b.length cf] 26)) (.cells #[.int .i64 0, .int .i64 0, .slice none 0 0, .slice none 0 0] 26))
  rw [e0] at D
  rw [e1] at N1
  have E1 : Hid ((((w.alloc (.cells #[.int .i64 x.p, .int .i64 x.w, .slice A x.s.length ca, .slice A2 x.b.length cb] 26)).alloc (.cells #[.int .i64 y.p, .int .i64 y.w, .slice E y.s.length ce, .slice E2 y.b.length cf] 26)).alloc (.cells #[.int .i64 0, .int .i64 0, .slice none 0 0, .slice none 0 0] 26)).heap.size = w.heap.size + 1 + 1 + 1) := hide (by simp)
  have HB := hide (bl_st B2 (bl_st B1 B0))
  have HX : Hid (blmV (((w.alloc (.cells #[.int .i64 x.p, .int .i64 x.w, .slice A x.s.length ca, .slice A2 x.b.length cb] 26)).alloc (.cells #[.int .i64 y.p, .int .i64 y.w, .slice E y.s.length ce, .slice E2 y.b.length cf] 26)).alloc (.cells #[.int .i64 0, .int .i64 0, .slice none 0 0, .slice none 0 0] 26)) (bloV x.p x.w (.slice A x.s.length ca) (.slice A2 x.b.length cb)) x) := hide ⟨_, _, rfl, ha.below (unhide HB), hb.below (unhide HB)⟩
  have HY : Hid (blmV (((w.alloc (.cells #[.int .i64 x.p, .int .i64 x.w, .slice A x.s.length ca, .slice A2 x.b.length cb] 26)).alloc (.cells #[.int .i64 y.p, .int .i64 y.w, .slice E y.s.length ce, .slice E2 y.b.length cf] 26)).alloc (.cells #[.int .i64 0, .int .i64 0, .slice none 0 0, .slice none 0 0] 26)) (bloV y.p y.w (.slice E y.s.length ce) (.slice E2 y.b.length cf)) y) := hide ⟨_, _, rfl, ha'.below (unhide HB), hb'.below (unhide HB)⟩
  have K1 := hide (ok37 _ x _ (unhide HX) hn hn')
  have K2 := hide (fun W (h : blmV W (bloV y.p y.w (.slice E y.s.length ce) (.slice E2 y.b.length cf)) y) => ok37 _ y W h hm hm')
  have HC := hide C
  have HD := hide D
  have HA := hide (ha.below (unhide HB))
  have HBB := hide (hb.below (unhide HB))
  have HA' := hide (ha'.below (unhide HB))
  have HBB' := hide (hb'.below (unhide HB))
  obtain ⟨_, c0, c1, c2, c3⟩ := C
  obtain ⟨_, d0, d1, d2, d3⟩ := D
  have HN := hide hn
  have HN' := hide hn'
  have HM := hide hm
  clear B0 B1 B2 e0 e1 ha hb ha' hb' hn hn' hm hm'
  generalize hw3 : (((w.alloc (.cells #[.int .i64 x.p, .int .i64 x.w, .slice A x.s.length ca, .slice A2 x.b.length cb] 26)).alloc (.cells #[.int .i64 y.p, .int .i64 y.w, .slice E y.s.length ce, .slice E2 y.b.length cf] 26)).alloc (.cells #[.int .i64 0, .int .i64 0, .slice none 0 0, .slice none 0 0] 26)) = w3 at *
  have HW3 := hide hw3
  have hw4 := hw3
  clear hw4
  generalize hr1 : okX x = u1 at *
  generalize hr2 : okX y = u2 at *
  have HR1 := hide hr1
  have HR2 := hide hr2
  clear hr1 hr2 hw3
  cases u1
  · have HE := hide (mergeR_bad (x := x) (y := y) (by rw [unhide HR1]; rfl))
    clear HX HY HA HBB HA' HBB' HN HN' HM K2
    obtain ⟨p, wd, ss, bs⟩ := x
    obtain ⟨p', wd', ss', bs'⟩ := y
    dsimp only at *
    go_enter Try.func40, Try.ntmps40
    go_wp2_with fail
    rw [unhide HW3]
    refine (unhide K1).mono ?_
    rintro e w1 ⟨rfl, b1⟩
    have B1 := hide (bl_st b1 (unhide HB))
    have n1 := (b1.block _ (Array.getElem?_eq_some_iff.1 (unhide N1)).1).trans (unhide N1)
    clear c0 c1 c2 c3 d0 d1 d2 d3
    clear b1
    have p0 : w1.cell? ⟨w.heap.size + 1 + 1, 0, none⟩ = some (.int .i64 0) := row_cell n1
    have y0 : w1.frozen? ⟨w.heap.size + 1 + 1, 0, none⟩ = false := row_free n1
    have p1 : w1.cell? ⟨w.heap.size + 1 + 1, 1, none⟩ = some (.int .i64 0) := row_cell n1
    have y1 : w1.frozen? ⟨w.heap.size + 1 + 1, 1, none⟩ = false := row_free n1
    have p2 : w1.cell? ⟨w.heap.size + 1 + 1, 2, none⟩ = some (.slice none 0 0) := row_cell n1
    have y2 : w1.frozen? ⟨w.heap.size + 1 + 1, 2, none⟩ = false := row_free n1
    have p3 : w1.cell? ⟨w.heap.size + 1 + 1, 3, none⟩ = some (.slice none 0 0) := row_cell n1
    have y3 : w1.frozen? ⟨w.heap.size + 1 + 1, 3, none⟩ = false := row_free n1
    have NN := hide n1
    clear n1
    go_wp2
    rw [unhide HE]
    exact bodyPost_ret (results_tmp_row rfl _ _ (w.heap.size + 1 + 1) 26 _ (0, 0) _ _ rfl rfl (row_put4 (unhide NN) 0 0 (.slice none 0 0) (.slice none 0 0)) Try.underlying26 rfl (by kernel_rfl)) rfl ⟨_, rfl, own_noX _ _ _, bl_put4 (unhide B1) (by omega)⟩
  cases u2
  · have HE := hide (mergeR_bad (x := x) (y := y) (by rw [unhide HR2, Bool.and_false]))
    generalize mergeR x y = rr at *
    clear HA HBB HA' HBB' HN HN' HM HR1 HR2
    go_enter Try.func40, Try.ntmps40
    go_wp2_with fail
    rw [unhide HW3]
    refine (unhide K1).mono ?_
    rintro e w1 ⟨rfl, b1⟩
    have B1 := hide (bl_st b1 (unhide HB))
    have n1 := (b1.block _ (Array.getElem?_eq_some_iff.1 (unhide N1)).1).trans (unhide N1)
    clear c0 c1 c2 c3 d0 d1 d2 d3
    have C1 := hide ((unhide HC).below b1)
    have D1 := hide ((unhide HD).below b1)
    have X1 := hide ((unhide HX).below b1)
    have Y1 := hide ((unhide HY).below b1)
    have NN1 := hide n1
    have bb1 := hide b1
    clear n1 b1
    obtain ⟨_, d0, d1, d2, d3⟩ := unhide D1
    go_wp2_with fail
    refine (unhide K2 w1 (unhide Y1)).mono ?_
    rintro e w4 ⟨rfl, b4⟩
    have B4 := hide (bl_st b4 (unhide B1))
    have n4 := (b4.block _ (Array.getElem?_eq_some_iff.1 (unhide NN1)).1).trans (unhide NN1)
    clear d0 d1 d2 d3
    clear b4
    have p0 : w4.cell? ⟨w.heap.size + 1 + 1, 0, none⟩ = some (.int .i64 0) := row_cell n4
    have y0 : w4.frozen? ⟨w.heap.size + 1 + 1, 0, none⟩ = false := row_free n4
    have p1 : w4.cell? ⟨w.heap.size + 1 + 1, 1, none⟩ = some (.int .i64 0) := row_cell n4
    have y1 : w4.frozen? ⟨w.heap.size + 1 + 1, 1, none⟩ = false := row_free n4
    have p2 : w4.cell? ⟨w.heap.size + 1 + 1, 2, none⟩ = some (.slice none 0 0) := row_cell n4
    have y2 : w4.frozen? ⟨w.heap.size + 1 + 1, 2, none⟩ = false := row_free n4
    have p3 : w4.cell? ⟨w.heap.size + 1 + 1, 3, none⟩ = some (.slice none 0 0) := row_cell n4
    have y3 : w4.frozen? ⟨w.heap.size + 1 + 1, 3, none⟩ = false := row_free n4
    have NN := hide n4
    clear n4
    go_wp2
    rw [unhide HE]
    exact bodyPost_ret (results_tmp_row rfl _ _ (w.heap.size + 1 + 1) 26 _ (0, 0) _ _ rfl rfl (row_put4 (unhide NN) 0 0 (.slice none 0 0) (.slice none 0 0)) Try.underlying26 rfl (by kernel_rfl)) rfl ⟨_, rfl, own_noX _ _ _, bl_put4 (unhide B4) (by omega)⟩
  by_cases hp : x.p = y.p
  rotate_left
  · have hne : ¬ sameX x y := fun h => hp h.1
    have q1 : (x.p != y.p) = true := by simpa using hp
    clear hp
    have HE := hide (mergeR_form (unhide HR1) (unhide HR2) hne)
    generalize mergeR x y = rr at *
    clear HA HBB HA' HBB' HN HN' HM HR1 HR2 hne
    go_enter Try.func40, Try.ntmps40
    go_wp2_with fail
    rw [unhide HW3]
    refine (unhide K1).mono ?_
    rintro e w1 ⟨rfl, b1⟩
    have B1 := hide (bl_st b1 (unhide HB))
    have n1 := (b1.block _ (Array.getElem?_eq_some_iff.1 (unhide N1)).1).trans (unhide N1)
    clear c0 c1 c2 c3 d0 d1 d2 d3
    have C1 := hide ((unhide HC).below b1)
    have D1 := hide ((unhide HD).below b1)
    have Y1 := hide ((unhide HY).below b1)
    have NN1 := hide n1
    have bb1 := hide b1
    clear n1 b1
    obtain ⟨_, d0, d1, d2, d3⟩ := unhide D1
    go_wp2_with fail
    refine (unhide K2 w1 (unhide Y1)).mono ?_
    rintro e w4 ⟨rfl, b4⟩
    have B4 := hide (bl_st b4 (unhide B1))
    have n4 := (b4.block _ (Array.getElem?_eq_some_iff.1 (unhide NN1)).1).trans (unhide NN1)
    clear d0 d1 d2 d3
    have C4 := hide ((unhide C1).below b4)
    have D4 := hide ((unhide D1).below b4)
    have b34 := bl_st b4 (unhide bb1)
    have L4 := hide (show w.heap.size + 1 + 1 + 1 ≤ w4.heap.size by have := b34.size; have := unhide E1; omega)
    clear b4 b34
    obtain ⟨_, c0, c1, c2, c3⟩ := unhide C4
    obtain ⟨_, d0, d1, d2, d3⟩ := unhide D4
    have p0 : w4.cell? ⟨w.heap.size + 1 + 1, 0, none⟩ = some (.int .i64 0) := row_cell n4
    have y0 : w4.frozen? ⟨w.heap.size + 1 + 1, 0, none⟩ = false := row_free n4
    have p1 : w4.cell? ⟨w.heap.size + 1 + 1, 1, none⟩ = some (.int .i64 0) := row_cell n4
    have y1 : w4.frozen? ⟨w.heap.size + 1 + 1, 1, none⟩ = false := row_free n4
    have p2 : w4.cell? ⟨w.heap.size + 1 + 1, 2, none⟩ = some (.slice none 0 0) := row_cell n4
    have y2 : w4.frozen? ⟨w.heap.size + 1 + 1, 2, none⟩ = false := row_free n4
    have p3 : w4.cell? ⟨w.heap.size + 1 + 1, 3, none⟩ = some (.slice none 0 0) := row_cell n4
    have y3 : w4.frozen? ⟨w.heap.size + 1 + 1, 3, none⟩ = false := row_free n4
    have NN := hide n4
    clear n4
    go_wp2
    rw [unhide HE]
    exact bodyPost_ret (results_tmp_row rfl _ _ (w.heap.size + 1 + 1) 26 _ (0, 0) _ _ rfl rfl (row_put4 (unhide NN) 0 0 (.slice none 0 0) (.slice none 0 0)) Try.underlying26 rfl (by kernel_rfl)) rfl ⟨_, rfl, own_noX _ _ _, bl_put4 (unhide B4) (by omega)⟩
  by_cases hw : x.w = y.w
  rotate_left
  · have hne : ¬ sameX x y := fun h => hw h.2.1
    have q1 : (x.w != y.w) = true := by simpa using hw
    have q0 : (x.p != y.p) = false := by simp [hp]
    clear hw hp
    have HE := hide (mergeR_form (unhide HR1) (unhide HR2) hne)
    generalize mergeR x y = rr at *
    clear HA HBB HA' HBB' HN HN' HM HR1 HR2 hne
    go_enter Try.func40, Try.ntmps40
    go_wp2_with fail
    rw [unhide HW3]
    refine (unhide K1).mono ?_
    rintro e w1 ⟨rfl, b1⟩
    have B1 := hide (bl_st b1 (unhide HB))
    have n1 := (b1.block _ (Array.getElem?_eq_some_iff.1 (unhide N1)).1).trans (unhide N1)
    clear c0 c1 c2 c3 d0 d1 d2 d3
    have C1 := hide ((unhide HC).below b1)
    have D1 := hide ((unhide HD).below b1)
    have Y1 := hide ((unhide HY).below b1)
    have NN1 := hide n1
    have bb1 := hide b1
    clear n1 b1
    obtain ⟨_, d0, d1, d2, d3⟩ := unhide D1
    go_wp2_with fail
    refine (unhide K2 w1 (unhide Y1)).mono ?_
    rintro e w4 ⟨rfl, b4⟩
    have B4 := hide (bl_st b4 (unhide B1))
    have n4 := (b4.block _ (Array.getElem?_eq_some_iff.1 (unhide NN1)).1).trans (unhide NN1)
    clear d0 d1 d2 d3
    have C4 := hide ((unhide C1).below b4)
    have D4 := hide ((unhide D1).below b4)
    have b34 := bl_st b4 (unhide bb1)
    have L4 := hide (show w.heap.size + 1 + 1 + 1 ≤ w4.heap.size by have := b34.size; have := unhide E1; omega)
    clear b4 b34
    obtain ⟨_, c0, c1, c2, c3⟩ := unhide C4
    obtain ⟨_, d0, d1, d2, d3⟩ := unhide D4
    have p0 : w4.cell? ⟨w.heap.size + 1 + 1, 0, none⟩ = some (.int .i64 0) := row_cell n4
    have y0 : w4.frozen? ⟨w.heap.size + 1 + 1, 0, none⟩ = false := row_free n4
    have p1 : w4.cell? ⟨w.heap.size + 1 + 1, 1, none⟩ = some (.int .i64 0) := row_cell n4
    have y1 : w4.frozen? ⟨w.heap.size + 1 + 1, 1, none⟩ = false := row_free n4
    have p2 : w4.cell? ⟨w.heap.size + 1 + 1, 2, none⟩ = some (.slice none 0 0) := row_cell n4
    have y2 : w4.frozen? ⟨w.heap.size + 1 + 1, 2, none⟩ = false := row_free n4
    have p3 : w4.cell? ⟨w.heap.size + 1 + 1, 3, none⟩ = some (.slice none 0 0) := row_cell n4
    have y3 : w4.frozen? ⟨w.heap.size + 1 + 1, 3, none⟩ = false := row_free n4
    have NN := hide n4
    clear n4
    go_wp2
    rw [unhide HE]
    exact bodyPost_ret (results_tmp_row rfl _ _ (w.heap.size + 1 + 1) 26 _ (0, 0) _ _ rfl rfl (row_put4 (unhide NN) 0 0 (.slice none 0 0) (.slice none 0 0)) Try.underlying26 rfl (by kernel_rfl)) rfl ⟨_, rfl, own_noX _ _ _, bl_put4 (unhide B4) (by omega)⟩
  by_cases hsl : x.s.length = y.s.length
  rotate_left
  · have hne : ¬ sameX x y := fun h => hsl (by rw [h.2.2])
    have q0 : (x.p != y.p) = false := by simp [hp]
    have q1 : (x.w != y.w) = false := by simp [hw]
    have q2 : ((x.s.length : Int) != (y.s.length : Int)) = true := by simp; omega
    clear hw hp hsl
    have HE := hide (mergeR_form (unhide HR1) (unhide HR2) hne)
    generalize mergeR x y = rr at *
    clear HA HBB HA' HBB' HN HN' HM HR1 HR2 hne
    go_enter Try.func40, Try.ntmps40
    go_wp2_with fail
    rw [unhide HW3]
    refine (unhide K1).mono ?_
    rintro e w1 ⟨rfl, b1⟩
    have B1 := hide (bl_st b1 (unhide HB))
    have n1 := (b1.block _ (Array.getElem?_eq_some_iff.1 (unhide N1)).1).trans (unhide N1)
    clear c0 c1 c2 c3 d0 d1 d2 d3
    have C1 := hide ((unhide HC).below b1)
    have D1 := hide ((unhide HD).below b1)
    have Y1 := hide ((unhide HY).below b1)
    have NN1 := hide n1
    have bb1 := hide b1
    clear n1 b1
    obtain ⟨_, d0, d1, d2, d3⟩ := unhide D1
    go_wp2_with fail
    refine (unhide K2 w1 (unhide Y1)).mono ?_
    rintro e w4 ⟨rfl, b4⟩
    have B4 := hide (bl_st b4 (unhide B1))
    have n4 := (b4.block _ (Array.getElem?_eq_some_iff.1 (unhide NN1)).1).trans (unhide NN1)
    clear d0 d1 d2 d3
    have C4 := hide ((unhide C1).below b4)
    have D4 := hide ((unhide D1).below b4)
    have b34 := bl_st b4 (unhide bb1)
    have L4 := hide (show w.heap.size + 1 + 1 + 1 ≤ w4.heap.size by have := b34.size; have := unhide E1; omega)
    clear b4 b34
    obtain ⟨_, c0, c1, c2, c3⟩ := unhide C4
    obtain ⟨_, d0, d1, d2, d3⟩ := unhide D4
    have p0 : w4.cell? ⟨w.heap.size + 1 + 1, 0, none⟩ = some (.int .i64 0) := row_cell n4
    have y0 : w4.frozen? ⟨w.heap.size + 1 + 1, 0, none⟩ = false := row_free n4
    have p1 : w4.cell? ⟨w.heap.size + 1 + 1, 1, none⟩ = some (.int .i64 0) := row_cell n4
    have y1 : w4.frozen? ⟨w.heap.size + 1 + 1, 1, none⟩ = false := row_free n4
    have p2 : w4.cell? ⟨w.heap.size + 1 + 1, 2, none⟩ = some (.slice none 0 0) := row_cell n4
    have y2 : w4.frozen? ⟨w.heap.size + 1 + 1, 2, none⟩ = false := row_free n4
    have p3 : w4.cell? ⟨w.heap.size + 1 + 1, 3, none⟩ = some (.slice none 0 0) := row_cell n4
    have y3 : w4.frozen? ⟨w.heap.size + 1 + 1, 3, none⟩ = false := row_free n4
    have NN := hide n4
    clear n4
    go_wp2
    rw [unhide HE]
    exact bodyPost_ret (results_tmp_row rfl _ _ (w.heap.size + 1 + 1) 26 _ (0, 0) _ _ rfl rfl (row_put4 (unhide NN) 0 0 (.slice none 0 0) (.slice none 0 0)) Try.underlying26 rfl (by kernel_rfl)) rfl ⟨_, rfl, own_noX _ _ _, bl_put4 (unhide B4) (by omega)⟩
  have q0 : (x.p != y.p) = false := by simp [hp]
  have q1 : (x.w != y.w) = false := by simp [hw]
  have q2 : ((x.s.length : Int) != (y.s.length : Int)) = false := by simp; omega
  have hrx := right_of (unhide HR1)
  have hry := right_of (unhide HR2)
  have HEB : Hid (x.s ≠ y.s → mergeR x y = (noX, 3)) := hide fun h => mergeR_form (unhide HR1) (unhide HR2) fun h' => h h'.2.2
  have HEG : Hid (x.s = y.s → mergeR x y = (mergeX x y, 0)) := hide fun h => mergeR_ok (unhide HR1) (unhide HR2) ⟨hp, hw, h⟩
  obtain ⟨M, hM⟩ : ∃ M : Nat, x.w = (M : Int) := ⟨x.w.toNat, by have := hrx.w1; omega⟩
  have hMt : x.w.toNat = M := by omega
  have M1 : 1 ≤ M := by have := hrx.w1; omega
  have hbx : x.b.length = x.s.length * M := by have := hrx.bits; rw [hM] at this; rw [Nat.mul_comm]; exact_mod_cast this
  have hby : y.b.length = x.s.length * M := by have := hry.bits; rw [← hw, hM] at this; rw [hsl, Nat.mul_comm]; exact_mod_cast this
  have b1' : 1 ≤ x.b.length := by rw [hbx]; exact Nat.mul_pos hrx.s1 M1
  have m256 : (x.b.length : Int) ≤ 256 := by have := hrx.bits; have := mul_in hrx.w1 hrx.w64 (n := (x.s.length : Int)) (by have := hrx.s1; omega) (by have := hrx.s4; omega); omega
  have K3 := hide (fun W (h : blmV W (bloV x.p x.w (.slice A x.s.length ca) (.slice A2 x.b.length cb)) x) => own54 _ x W h (unhide HN) (unhide HN'))
  have HMA : Hid (∀ k, k < x.b.length → (bitsOf M x.s.length (mgF x y x.s.length)).getD k false = (x.b.getD k false || y.b.getD k false)) := hide fun k hk => merged_at hMt (by rw [← hbx]; exact hk)
  have HML : Hid ((bitsOf M x.s.length (mgF x y x.s.length)).length = x.b.length) := hide (by rw [bitsOf_len, hbx])
  have HAX : Hid (mergeX x y = ⟨x.p, x.w, x.s, bitsOf M x.s.length (mgF x y x.s.length)⟩) := hide (by unfold mergeX; rw [hMt])
  have nI : (x.s.length : Int) ≤ 4 := by have := hrx.s4; omega
  have n0 : (0 : Int) ≤ (x.s.length : Int) := by omega
  have HB1 := hide b1'
  have HSL := hide hsl
  have HBY := hide (show y.b.length = x.b.length by rw [hbx, hby])
  clear HN HN' HM hrx hry hMt M1 hp hw HR1 HR2 hM hsl hbx hby b1'
  generalize bitsOf M x.s.length (mgF x y x.s.length) = mb at *
  generalize mergeX x y = yy at *
  generalize mergeR x y = rr at *
  go_enter Try.func40, Try.ntmps40
  go_wp2_with fail
  rw [unhide HW3]
  refine (unhide K1).mono ?_
  rintro e w1 ⟨rfl, b1⟩
  have B1 := hide (bl_st b1 (unhide HB))
  have n1 := (b1.block _ (Array.getElem?_eq_some_iff.1 (unhide N1)).1).trans (unhide N1)
  clear c0 c1 c2 c3 d0 d1 d2 d3
  have C1 := hide ((unhide HC).below b1)
  have D1 := hide ((unhide HD).below b1)
  have Y1 := hide ((unhide HY).below b1)
  have NN1 := hide n1
  have bb1 := hide b1
  clear n1 b1
  obtain ⟨_, d0, d1, d2, d3⟩ := unhide D1
  go_wp2_with fail
  refine (unhide K2 w1 (unhide Y1)).mono ?_
  rintro e w4 ⟨rfl, b4⟩
  have B4 := hide (bl_st b4 (unhide B1))
  have n4 := (b4.block _ (Array.getElem?_eq_some_iff.1 (unhide NN1)).1).trans (unhide NN1)
  clear d0 d1 d2 d3
  have C4 := hide ((unhide C1).below b4)
  have D4 := hide ((unhide D1).below b4)
  have b34 := bl_st b4 (unhide bb1)
  have L4 := hide (show w.heap.size + 1 + 1 + 1 ≤ w4.heap.size by have := b34.size; have := unhide E1; omega)
  have S4 := hide ((unhide HA).below b34)
  have S4' := hide ((unhide HA').below b34)
  have T4' := hide ((unhide HBB').below b34)
  have YB4 := hide (unhide T4')
  have X4 := hide ((unhide HX).below b34)
  have N4 := hide n4
  clear b4 b34 n4
  obtain ⟨_, c0, c1, c2, c3⟩ := unhide C4
  obtain ⟨_, d0, d1, d2, d3⟩ := unhide D4
  go_wp2_with fail
  refine (unhide K3 w4 (unhide X4)).mono ?_
  rintro e w5 ⟨r, rfl, ox, b5⟩
  obtain ⟨a5, b5v, rfl, oa, ob, hap⟩ := ox
  obtain ⟨D1, k1, rfl⟩ := oa.salts.slice
  obtain ⟨D2, k2, rfl⟩ := ob.bools.slice
  obtain ⟨g, rest, hD2, _, hg1, hg2, hg, hcap⟩ := ob.row (unhide HB1)
  subst hD2
  have BA : Below w5.heap.size w5 (w5.alloc (.cells #[.int .i64 x.p, .int .i64 x.w, .slice D1 x.s.length k1, .slice (some ⟨g, 0, none⟩) x.b.length k2] 26)) := bl_al (Below.refl _ _)
  have F := bc_new w5 x.p x.w (.slice D1 x.s.length k1) (.slice (some ⟨g, 0, none⟩) x.b.length k2) 26
  have HF := hide F
  have HNO := hide (heap_alloc_new w5 (.cells #[.int .i64 x.p, .int .i64 x.w, .slice D1 x.s.length k1, .slice (some ⟨g, 0, none⟩) x.b.length k2] 26))
  have b46 := bl_st BA b5
  have B6 := hide b46
  have C6 := hide ((unhide C4).below b46)
  have D6 := hide ((unhide D4).below b46)
  have S6 := hide ((unhide S4).below b46)
  have S6' := hide ((unhide S4').below b46)
  have T6' := hide ((unhide T4').below b46)
  have N6 := hide ((b46.block _ (Array.getElem?_eq_some_iff.1 (unhide N4)).1).trans (unhide N4))
  have BW6 := hide (bl_st b46 (unhide B4))
  have OA := hide (oa.below BA)
  have HG := hide ((BA.block g (Array.getElem?_eq_some_iff.1 hg).1).trans hg)
  have HG1 := hide hg1
  have HG2 := hide hg2
  have HAP := hide hap
  have HCAP := hide hcap
  have L5 := hide b5.size
  clear oa ob hap hg hg1 hg2 hcap BA b46 b5 c0 c1 c2 c3 d0 d1 d2 d3 K3 C4 D4 S4 S4' T4' N4 B4 X4
  obtain ⟨_, f0, f1, f2, f3⟩ := F
  go_wp2
  generalize hw6 : w5.alloc (.cells #[.int .i64 x.p, .int .i64 x.w, .slice D1 x.s.length k1, .slice (some ⟨g, 0, none⟩) x.b.length k2] 26) = w6 at *
  have L6 : Hid (w6.heap.size = w5.heap.size + 1) := hide (by rw [← hw6]; simp)
  clear hw6 f0 f1 f2 f3
  go_loopw [7] (fun i wr => ∃ j k : Nat, j ≤ x.s.length ∧ i = .int .i64 j ∧ (∀ i, i < j → x.s.getD i noA = y.s.getD i noA) ∧ wr = w6.drewN k) (fun i _ => x.s.length - (intOf i).toNat)
  case atStart => exact ⟨0, 0, by omega, rfl, fun i hi => by omega, rfl⟩
  case round =>
    obtain ⟨j, k, hj, rfl, hall, rfl⟩ := hrel
    have x0 : ∀ k, (w6.drewN k).cell? ⟨w.heap.size, 2, none⟩ = some (.slice A x.s.length ca) := fun _ => (unhide C6).c2
    by_cases hlt : j < x.s.length
    · have hlt' : j < y.s.length := by rw [← unhide HSL]; exact hlt
      obtain ⟨b1, o1, hA, _, hc1⟩ := (unhide S6).at hlt
      obtain ⟨b2, o2, hA2, _, hc2⟩ := (unhide S6').at hlt'
      subst hA hA2
      have q1 : (j : Int) < (x.s.length : Int) := by omega
      have q1' : (j : Int) < (y.s.length : Int) := by omega
      have q0 : (0 : Int) ≤ (j : Int) := by omega
      have HJ := hide hlt
      have HNE : Hid (x.s.getD j noA ≠ y.s.getD j noA → rr = (noX, 3)) := hide fun h => unhide HEB fun e => h (by rw [e])
      have HEQ : Hid (x.s.getD j noA = y.s.getD j noA → ∀ i, i < j + 1 → x.s.getD i noA = y.s.getD i noA) := hide fun h i hi => by
        by_cases e : i = j
        · subst e; exact h
        · exact hall i (by omega)
      have x1 : ∀ k, (w6.drewN k).cell? ⟨w.heap.size + 1, 2, none⟩ = some (.slice (some ⟨b2, o2, none⟩) y.s.length ce) := fun _ => (unhide D6).c2
      clear hlt hlt' hj hall
      generalize x.s.getD j noA = s1 at *
      generalize y.s.getD j noA = s2 at *
      obtain ⟨x1', y1'⟩ := s1
      obtain ⟨x2', y2'⟩ := s2
      obtain ⟨c0, c1⟩ := hc1
      obtain ⟨d0, d1⟩ := hc2
      dsimp only at c0 c1 d0 d1
      have e0 : ∀ k, (w6.drewN k).cell? ⟨b1, o1 + j * 2, none⟩ = some (.int .i64 x1') := fun _ => c0
      have e1 : ∀ k, (w6.drewN k).cell? ⟨b1, o1 + j * 2 + 1, none⟩ = some (.int .i64 y1') := fun _ => c1
      have f0 : ∀ k, (w6.drewN k).cell? ⟨b2, o2 + j * 2, none⟩ = some (.int .i64 x2') := fun _ => d0
      have f1 : ∀ k, (w6.drewN k).cell? ⟨b2, o2 + j * 2 + 1, none⟩ = some (.int .i64 y2') := fun _ => d1
      clear c0 c1 d0 d1
      by_cases he : (x1', y1') = (x2', y2')
      · have HE2 := hide (unhide HEQ he)
        obtain ⟨rfl, rfl⟩ := Prod.mk.inj he
        clear he HNE HEQ
        go_wp2
        go_quiet (fail)
        rw [show (w6.drewN k).drewN nq = w6.drewN (k + nq) by simp [World.drewN, Nat.add_assoc]]
        go_wp2
        go_roundw
        case rel => exact ⟨j + 1, _, unhide HJ, by go_num, unhide HE2, rfl⟩
        case measure => have := unhide HJ; simp [intOf]; omega
      · have HE := hide (unhide HNE he)
        clear HNE HEQ
        have l4 := unhide L4
        by_cases hx : x1' = x2'
        · subst hx
          have hy : ¬ y1' = y2' := fun e => he (by rw [e])
          have hy2 : (y1' == y2') = false := by simpa using hy
          clear he hy
          go_wp2
          go_quiet (fail)
          rw [show (w6.drewN k).drewN nq = w6.drewN (k + nq) by simp [World.drewN, Nat.add_assoc]]
          have n7 : (w6.drewN (k + nq)).heap[w.heap.size + 1 + 1]? = _ := unhide N6
          have B7 := hide (below_drewN (unhide BW6) (k + nq))
          clear e0 e1 f0 f1 x0 x1
          generalize w6.drewN (k + nq) = w7 at *
          have p0 : w7.cell? ⟨w.heap.size + 1 + 1, 0, none⟩ = some (.int .i64 0) := row_cell n7
          have y0 : w7.frozen? ⟨w.heap.size + 1 + 1, 0, none⟩ = false := row_free n7
          have p1 : w7.cell? ⟨w.heap.size + 1 + 1, 1, none⟩ = some (.int .i64 0) := row_cell n7
          have y1 : w7.frozen? ⟨w.heap.size + 1 + 1, 1, none⟩ = false := row_free n7
          have p2 : w7.cell? ⟨w.heap.size + 1 + 1, 2, none⟩ = some (.slice none 0 0) := row_cell n7
          have y2 : w7.frozen? ⟨w.heap.size + 1 + 1, 2, none⟩ = false := row_free n7
          have p3 : w7.cell? ⟨w.heap.size + 1 + 1, 3, none⟩ = some (.slice none 0 0) := row_cell n7
          have y3 : w7.frozen? ⟨w.heap.size + 1 + 1, 3, none⟩ = false := row_free n7
          have NN := hide n7
          clear n7
          go_wp2
          rw [unhide HE]
          exact bodyPost_ret (results_tmp_row rfl _ _ (w.heap.size + 1 + 1) 26 _ (0, 0) _ _ rfl rfl (row_put4 (unhide NN) 0 0 (.slice none 0 0) (.slice none 0 0)) Try.underlying26 rfl (by kernel_rfl)) rfl ⟨_, rfl, own_noX _ _ _, bl_put4 (unhide B7) (by omega)⟩
        · have hx2 : (x1' == x2') = false := by simpa using hx
          clear he hx
          go_wp2
          go_quiet (fail)
          rw [show (w6.drewN k).drewN nq = w6.drewN (k + nq) by simp [World.drewN, Nat.add_assoc]]
          have n7 : (w6.drewN (k + nq)).heap[w.heap.size + 1 + 1]? = _ := unhide N6
          have B7 := hide (below_drewN (unhide BW6) (k + nq))
          clear e0 e1 f0 f1 x0 x1
          generalize w6.drewN (k + nq) = w7 at *
          have p0 : w7.cell? ⟨w.heap.size + 1 + 1, 0, none⟩ = some (.int .i64 0) := row_cell n7
          have y0 : w7.frozen? ⟨w.heap.size + 1 + 1, 0, none⟩ = false := row_free n7
          have p1 : w7.cell? ⟨w.heap.size + 1 + 1, 1, none⟩ = some (.int .i64 0) := row_cell n7
          have y1 : w7.frozen? ⟨w.heap.size + 1 + 1, 1, none⟩ = false := row_free n7
          have p2 : w7.cell? ⟨w.heap.size + 1 + 1, 2, none⟩ = some (.slice none 0 0) := row_cell n7
          have y2 : w7.frozen? ⟨w.heap.size + 1 + 1, 2, none⟩ = false := row_free n7
          have p3 : w7.cell? ⟨w.heap.size + 1 + 1, 3, none⟩ = some (.slice none 0 0) := row_cell n7
          have y3 : w7.frozen? ⟨w.heap.size + 1 + 1, 3, none⟩ = false := row_free n7
          have NN := hide n7
          clear n7
          go_wp2
          rw [unhide HE]
          exact bodyPost_ret (results_tmp_row rfl _ _ (w.heap.size + 1 + 1) 26 _ (0, 0) _ _ rfl rfl (row_put4 (unhide NN) 0 0 (.slice none 0 0) (.slice none 0 0)) Try.underlying26 rfl (by kernel_rfl)) rfl ⟨_, rfl, own_noX _ _ _, bl_put4 (unhide B7) (by omega)⟩
    · obtain rfl : j = x.s.length := by omega
      have hss : x.s = y.s := List.ext_getElem (unhide HSL) fun i h1 h2 => by
        have := hall i h1
        rw [List.getD_eq_getElem?_getD, List.getD_eq_getElem?_getD, List.getElem?_eq_getElem h1, List.getElem?_eq_getElem h2] at this
        exact this
      have HE := hide (unhide HEG hss)
      clear hlt hall hss HEB HEG S6 S6'
      have b67 : Below w6.heap.size w6 (w6.drewN k) := below_drewN (Below.refl _ _) k
      have B7 := hide (bl_st b67 (unhide B6))
      have C7 := hide ((unhide C6).below b67)
      have D7 := hide ((unhide D6).below b67)
      have F7 := hide ((unhide HF).below b67)
      have T7' := hide ((unhide T6').below b67)
      have N7 := hide ((b67.block _ (Array.getElem?_eq_some_iff.1 (unhide N6)).1).trans (unhide N6))
      have NO7 := hide ((b67.block _ (Array.getElem?_eq_some_iff.1 (unhide HNO)).1).trans (unhide HNO))
      have BW7 := hide (bl_st b67 (unhide BW6))
      have OA7 := hide ((unhide OA).below b67)
      have HG7 := hide ((b67.block _ (Array.getElem?_eq_some_iff.1 (unhide HG)).1).trans (unhide HG))
      have L7 : Hid ((w6.drewN k).heap.size = w5.heap.size + 1) := L6
      clear b67 C6 D6 HF T6' N6 HNO BW6 OA HG L6 B6
      go_wp2
      generalize w6.drewN k = w7 at *
      clear x0
      have HM0 : Hid (w7.heap[g]? = some (bolO (mixG mb x.b 0) rest)) := hide (by rw [mixG_zero]; exact unhide HG7)
      go_loopw [8] (fun i wr => ∃ k : Nat, k ≤ x.b.length ∧ i = .int .i64 k ∧ wr.heap[g]? = some (bolO (mixG mb x.b k) rest) ∧ Lone g w7 wr) (fun i _ => x.b.length - (intOf i).toNat)
      case atStart => first | exact ⟨0, by omega, rfl, unhide HM0, Lone.refl _ _⟩ | ((repeat apply Exists.intro); exact ⟨⟨0, by omega, rfl, unhide HM0, Lone.refl _ _⟩, rfl⟩)
      case round =>
        obtain ⟨k, hk, rfl, hg, hlo⟩ := hrel
        have l4 := unhide L4
        have l5 := unhide L5
        have l7 := unhide L7
        have hg1 := unhide HG1
        have hg2 := unhide HG2
        have F8 := hide ((unhide F7).lone hlo (by omega))
        have D8 := hide ((unhide D7).lone hlo (by omega))
        obtain ⟨_, f0, f1, f2, f3⟩ := unhide F8
        by_cases hlt : k < x.b.length
        · have q1 : (k : Int) < (x.b.length : Int) := by omega
          have q0 : (0 : Int) ≤ (k : Int) := by omega
          have hly : k < y.b.length := by rw [unhide HBY]; exact hlt
          have qy : (k : Int) < (y.b.length : Int) := by omega
          have hbg : Below w4.heap.size w4 wr := hlo.below (unhide B7) (by omega) (by omega)
          obtain ⟨b5, o5, hE2, hl5, hcy⟩ := (unhide T7').at hly
          subst hE2
          have hl : (mixG mb x.b k).length = x.b.length := mixG_len _ _ _ (unhide HML)
          have ho : (mixG mb x.b k).getD k false = x.b.getD k false := mixG_at false mb x.b k (unhide HML) hlt
          have p1 := cell_bolO hg k (by omega)
          rw [ho] at p1
          have p2 := free_bolO hg k
          have p3 := set_bolO hg k (mb.getD k false) (by omega)
          rw [mixG_succ false _ _ _ (unhide HML) hlt, unhide HMA k hlt] at p3
          have l3 := hlo.trans (lone_setCell g k wr (.bool (x.b.getD k false || y.b.getD k false)))
          have P1 := hide p1
          have P2 := hide p2
          have P3 := hide p3
          have L3 := hide l3
          have HJ := hide hlt
          have HGL := hide (Array.getElem?_eq_some_iff.1 hg).1
          have ny : b5 ≠ g := by
            obtain ⟨b9, o9, e9, hl9, _⟩ := (unhide YB4).at hly
            simp only [Option.some.injEq, Addr.mk.injEq, and_true] at e9
            omega
          have PY := hide ((show wr.cell? ⟨b5, o5 + k, none⟩ = w7.cell? ⟨b5, o5 + k, none⟩ by unfold World.cell?; rw [show (⟨b5, o5 + k, none⟩ : Addr).block = b5 from rfl, hlo.block b5 hl5 ny]).trans hcy)
          have NY := hide ny
          clear p1 p2 p3 l3 ho hl hcy hl5 hg hlo hlt hly hk hbg ny
          generalize x.b.getD k false = ox at *
          generalize y.b.getD k false = oy at *
          go_wp2
          clear f0 f1 f2 f3
          have p1 := unhide P1
          have p2 := unhide P2
          have py := unhide PY
          obtain ⟨_, f0, f1, f2, f3⟩ := unhide F8
          obtain ⟨_, d0, d1, d2, d3⟩ := unhide D8
          cases ox
          · rw [Bool.false_or] at P3 L3
            go_region
            have P4 : Hid (((wr.setCell ⟨g, k, none⟩ (.bool oy)).drew).heap[g]? = some (bolO (mixG mb x.b (k + 1)) rest)) := P3
            have L4' : Hid (Lone g w7 (wr.setCell ⟨g, k, none⟩ (.bool oy)).drew) := hide ⟨(unhide L3).os, (unhide L3).tape, (unhide L3).output, (unhide L3).size, (unhide L3).block⟩
            clear P3 L3 p1 p2 py f0 f1 f2 f3 d0 d1 d2 d3
            generalize (wr.setCell ⟨g, k, none⟩ (.bool oy)).drew = w8 at *
            go_wp2
            go_roundw
            case rel => first | exact ⟨k + 1, unhide HJ, by go_num, unhide P4, unhide L4'⟩ | ((repeat apply Exists.intro); exact ⟨⟨k + 1, unhide HJ, by go_num, unhide P4, unhide L4'⟩, rfl⟩)
            case measure => have := unhide HJ; simp [intOf]; omega
          · rw [Bool.true_or] at P3 L3
            go_region
            have P4 : Hid (((wr.setCell ⟨g, k, none⟩ (.bool true)).drew).heap[g]? = some (bolO (mixG mb x.b (k + 1)) rest)) := P3
            have L4' : Hid (Lone g w7 (wr.setCell ⟨g, k, none⟩ (.bool true)).drew) := hide ⟨(unhide L3).os, (unhide L3).tape, (unhide L3).output, (unhide L3).size, (unhide L3).block⟩
            clear P3 L3 p1 p2 py f0 f1 f2 f3 d0 d1 d2 d3
            generalize (wr.setCell ⟨g, k, none⟩ (.bool true)).drew = w8 at *
            go_wp2
            go_roundw
            case rel => first | exact ⟨k + 1, unhide HJ, by go_num, unhide P4, unhide L4'⟩ | ((repeat apply Exists.intro); exact ⟨⟨k + 1, unhide HJ, by go_num, unhide P4, unhide L4'⟩, rfl⟩)
            case measure => have := unhide HJ; simp [intOf]; omega
        · obtain rfl : k = x.b.length := by omega
          have hm := mixG_all mb x.b (unhide HML)
          rw [hm] at hg
          have n2 := (hlo.block (w.heap.size + 1 + 1) (by omega) (by omega)).trans (unhide N7)
          have nd := (hlo.block w5.heap.size (unhide F7).lt (by omega)).trans (unhide NO7)
          have OA8 := hide ((unhide OA7).loneN hlo (fun g' h e => unhide HAP g' h (by rw [← e]; rfl)))
          have HG8 := hide hg
          have HL := hide hlo.size
          have hbg : Below w4.heap.size w4 wr := hlo.below (unhide B7) (by omega) (by omega)
          have HBW := hide (show Below w.heap.size w wr from hlo.below (unhide BW7) (by omega) (by omega))
          have p0 : wr.cell? ⟨w.heap.size + 1 + 1, 0, none⟩ = some (.int .i64 0) := row_cell n2
          have y0 : wr.frozen? ⟨w.heap.size + 1 + 1, 0, none⟩ = false := row_free n2
          have p1 : wr.cell? ⟨w.heap.size + 1 + 1, 1, none⟩ = some (.int .i64 0) := row_cell n2
          have y1 : wr.frozen? ⟨w.heap.size + 1 + 1, 1, none⟩ = false := row_free n2
          have p2 : wr.cell? ⟨w.heap.size + 1 + 1, 2, none⟩ = some (.slice none 0 0) := row_cell n2
          have y2 : wr.frozen? ⟨w.heap.size + 1 + 1, 2, none⟩ = false := row_free n2
          have p3 : wr.cell? ⟨w.heap.size + 1 + 1, 3, none⟩ = some (.slice none 0 0) := row_cell n2
          have y3 : wr.frozen? ⟨w.heap.size + 1 + 1, 3, none⟩ = false := row_free n2
          have N2 := hide n2
          clear hlt hg hlo n2 nd hm hbg
          go_wp2
          rw [unhide HE]
          refine bodyPost_ret (results_tmp_row rfl _ _ (w.heap.size + 1 + 1) 26 _ (0, 0) _ _ rfl rfl (row_put4 (unhide N2) x.p x.w (.slice D1 x.s.length k1) (.slice (some ⟨g, 0, none⟩) x.b.length k2)) Try.underlying26 rfl (by kernel_rfl)) rfl ⟨_, rfl, ?_, bl_put4 (unhide HBW) (by omega)⟩
          rw [unhide HAX]
          have hl := unhide HL
          refine ⟨_, _, rfl, ?_, ?_, unhide HAP⟩
          · refine ((unhide OA8).lone (lone_put4 wr (w.heap.size + 1 + 1) x.p x.w _ _) (by omega)).wide (by omega) ?_
            rw [size_put4]; omega
          · have hn : w.heap.size + 1 + 1 ≠ g := by omega
            refine .inr ⟨g, k2, rest, ?_, by omega, ?_, ?_, ?_⟩
            · rw [unhide HML]
            · rw [size_put4]; omega
            · exact row_set_other (row_set_other (row_set_other (row_set_other (unhide HG8) hn) hn) hn) hn
            · rw [unhide HML]; exact unhide HCAP
end Go.Proofs.Ythckgccfjpgbaaa
