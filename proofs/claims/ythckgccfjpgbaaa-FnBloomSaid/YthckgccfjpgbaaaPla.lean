/- A tag's place in a filter: the specification's side; BloomPlace, both sides. -/
import Derived.Test.YthckgccfjpgbaaaPlc
namespace Go.Proofs.Ythckgccfjpgbaaa
open Go.RowKit
set_option maxHeartbeats 4000000
set_option maxRecDepth 20000
/-- what a right filter is -/
structure Right (x : Blm) : Prop where
  p2 : 2 ≤ x.p
  p9 : x.p ≤ 509
  w1 : 1 ≤ x.w
  wp : x.w ≤ x.p
  w64 : x.w ≤ 64
  s1 : 1 ≤ x.s.length
  s4 : x.s.length ≤ 4
  salt : ∀ i, i < x.s.length → saltOK x.p (x.s.getD i noA) = true
  bits : (x.b.length : Int) = x.w * (x.s.length : Int)
theorem right_of {x : Blm} (h : okX x = true) : Right x := by
  unfold okX at h
  simp only [Bool.and_eq_true, decide_eq_true_eq] at h
  have h1 := shapeB_in h.1.1
  have h2 := saltsB_len h.1.2
  have h3 := h.1.2
  unfold saltsB at h3
  simp only [Bool.and_eq_true, decide_eq_true_eq, List.all_eq_true] at h3
  refine ⟨h1.1, h1.2.1, h1.2.2.1, h1.2.2.2.1, h1.2.2.2.2, h2.1, h2.2, fun i hi => h3.2 _ ?_, h.2⟩
  rw [List.getD_eq_getElem?_getD, List.getElem?_eq_getElem hi]
  exact List.getElem_mem _
theorem part_in {i n wd : Int} (i0 : 0 ≤ i) (h : i < n) (hn : n ≤ 4) (w1 : 1 ≤ wd) (h64 : wd ≤ 64) : 0 ≤ i * wd ∧ i * wd ≤ 192 := by
  have : i = 0 ∨ i = 1 ∨ i = 2 ∨ i = 3 := by omega
  rcases this with rfl | rfl | rfl | rfl <;> omega
theorem place55 (v : Value) (x : Blm) (i : Nat) (tag : Int) (w : World) (hv : blmV w v x) (hr : Right x) (hi : i < x.s.length) (ht : inP x.p tag = true) :
    Calls Try.prog 55 #[v, .int .i64 (i : Int), .int .i64 tag] w fun e w' => e = .returned (.int .i64 ((i : Int) * x.w + plc x.p x.w (x.s.getD i noA) tag)) ∧ Below w.heap.size w w' := by
  obtain ⟨a, b, rfl, ha, hb⟩ := hv
  have hs := hr.salt i hi
  have p2 := hr.p2
  have p9 := hr.p9
  have w1 := hr.w1
  obtain ⟨u0, u1⟩ := part_in (i := (i : Int)) (n := (x.s.length : Int)) (by omega) (by omega) (by have := hr.s4; omega) hr.w1 hr.w64
  have w64 := hr.w64
  have n4 : (x.s.length : Int) ≤ 4 := by have := hr.s4; omega
  have hb2 := plc_in (p := x.p) (x.s.getD i noA) tag w1
  clear hr
  obtain ⟨A2, cb, rfl⟩ := hb.slice
  obtain ⟨A, ca, rfl, hc⟩ := ha
  obtain ⟨b1, off, hA, hl1, hcell⟩ := hc (by omega)
  subst hA
  clear hc hb
  obtain ⟨p, wd, ss, bs⟩ := x
  dsimp only at *
  have pc := hcell i hi
  clear hcell
  have q1 : (i : Int) < (ss.length : Int) := by omega
  have q0 : (0 : Int) ≤ (i : Int) := by omega
  generalize ss.getD i noA = sj at *
  obtain ⟨sa, sb⟩ := sj
  have B1 : Below w.heap.size w (w.alloc (.cells #[.int .i64 p, .int .i64 wd, .slice (some ⟨b1, off, none⟩) ss.length ca, .slice A2 bs.length cb] 26)) := bl_al (Below.refl _ _)
  have BA : Below (w.alloc (.cells #[.int .i64 p, .int .i64 wd, .slice (some ⟨b1, off, none⟩) ss.length ca, .slice A2 bs.length cb] 26)).heap.size (w.alloc (.cells #[.int .i64 p, .int .i64 wd, .slice (some ⟨b1, off, none⟩) ss.length ca, .slice A2 bs.length cb] 26)) ((w.alloc (.cells #[.int .i64 p, .int .i64 wd, .slice (some ⟨b1, off, none⟩) ss.length ca, .slice A2 bs.length cb] 26)).alloc (.cells #[.int .i64 sa, .int .i64 sb] 67)) := bl_al (Below.refl _ _)
  have C := bc_new w p wd (.slice (some ⟨b1, off, none⟩) ss.length ca) (.slice A2 bs.length cb) 26
  have HC := hide (C.below BA)
  have HS := hide (sc_new (w.alloc (.cells #[.int .i64 p, .int .i64 wd, .slice (some ⟨b1, off, none⟩) ss.length ca, .slice A2 bs.length cb] 26)) sa sb 67)
  rw [show (w.alloc (.cells #[.int .i64 p, .int .i64 wd, .slice (some ⟨b1, off, none⟩) ss.length ca, .slice A2 bs.length cb] 26)).heap.size = w.heap.size + 1 by simp] at HS
  have HB := hide (bl_st BA B1)
  obtain ⟨e0, e1⟩ := pc.below hl1 B1
  obtain ⟨_, c0, c1, c2, c3⟩ := C
  unfold saltOK at hs
  rw [Bool.and_eq_true] at hs
  obtain ⟨m0, m1⟩ := mul_in2 hs.1 ht p9
  have b0 := inP_is hs.2
  unfold plc at hb2 ⊢
  dsimp only at *
  clear B1 BA hs ht pc hi hl1
  obtain ⟨m, hm⟩ : ∃ m, sa * tag = m := ⟨_, rfl⟩
  rw [hm] at m0 m1 hb2 ⊢
  obtain ⟨y, hy⟩ : ∃ y, m + sb = y := ⟨_, rfl⟩
  rw [hy] at hb2 ⊢
  have y0 : 0 ≤ y := by omega
  have y1 : y ≤ 258572 := by omega
  have ne : ¬ p = 0 := by omega
  have ne2 : ¬ wd = 0 := by omega
  have t1 : Int.tmod y p = y % p := Int.tmod_eq_emod_of_nonneg y0
  have r0 : 0 ≤ y % p := Int.emod_nonneg _ ne
  have t2 : Int.tmod (y % p) wd = y % p % wd := Int.tmod_eq_emod_of_nonneg r0
  clear b0 r0
  generalize y % p = r at *
  generalize r % wd = z at *
  obtain ⟨z0, z1⟩ := hb2
  have z2 : z ≤ 63 := by omega
  obtain ⟨u, hu⟩ : ∃ u, (i : Int) * wd = u := ⟨_, rfl⟩
  rw [hu] at u0 u1 ⊢
  go_enter Try.func55, Try.ntmps55
  go_wp2
  generalize (w.alloc (.cells #[.int .i64 p, .int .i64 wd, .slice (some ⟨b1, off, none⟩) ss.length ca, .slice A2 bs.length cb] 26)).alloc (.cells #[.int .i64 sa, .int .i64 sb] 67) = w2 at *
  clear c0 c1 c2 c3 e0 e1
  have x0 : ∀ k, (w2.drewN k).cell? ⟨w.heap.size, 0, none⟩ = some (.int .i64 p) := fun _ => (unhide HC).c0
  have x1 : ∀ k, (w2.drewN k).cell? ⟨w.heap.size, 1, none⟩ = some (.int .i64 wd) := fun _ => (unhide HC).c1
  have x2 : ∀ k, (w2.drewN k).cell? ⟨w.heap.size + 1, 0, none⟩ = some (.int .i64 sa) := fun _ => (unhide HS).c0
  have x3 : ∀ k, (w2.drewN k).cell? ⟨w.heap.size + 1, 1, none⟩ = some (.int .i64 sb) := fun _ => (unhide HS).c1
  go_quiet (fail)
  go_wp2
  go_ret
  exact ⟨rfl, below_drewN (unhide HB) _⟩
end Go.Proofs.Ythckgccfjpgbaaa
