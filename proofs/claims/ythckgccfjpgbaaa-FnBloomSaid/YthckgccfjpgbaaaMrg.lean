/- BloomMerge: what it is; the program's side. -/
import Derived.Test.YthckgccfjpgbaaaAds
namespace Go.Proofs.Ythckgccfjpgbaaa
open Go.RowKit
set_option maxHeartbeats 4000000
set_option maxRecDepth 20000
theorem equal56 (a b : Value) (ss tt : List Slt) (w : World) (ha : saltsV w a ss) (hb : saltsV w b tt) (hn : ss.length ≤ 2097152) (hn' : tt.length ≤ 2097152) :
    Calls Try.prog 56 #[a, b] w fun e w' => e = .returned (.bool (decide (ss = tt))) ∧ ∃ k, w' = w.drewN k := by
  have HA := hide ha
  have HB := hide hb
  obtain ⟨A, ca, rfl⟩ := ha.slice
  obtain ⟨A2, cb, rfl⟩ := hb.slice
  clear ha hb
  have n0 : (0 : Int) ≤ (ss.length : Int) := by omega
  have m0 : (0 : Int) ≤ (tt.length : Int) := by omega
  by_cases hl : ss.length = tt.length
  · have q : (ss.length : Int) = (tt.length : Int) := by omega
    obtain ⟨n, hnn⟩ : ∃ n, n = ss.length := ⟨_, rfl⟩
    have HNN := hide hnn
    have HL := hide hl
    have n1 : (n : Int) ≤ 2097152 := by omega
    have n2 : (0 : Int) ≤ (n : Int) := by omega
    rw [← hl, ← hnn] at HB ⊢
    rw [← hnn] at HA
    clear hnn hl q hn hn' n0 m0
    go_enter Try.func56, Try.ntmps56
    go_wp2
    go_loopw [13] (fun i wr => ∃ j k : Nat, j ≤ n ∧ i = .int .i64 j ∧ (∀ i, i < j → ss.getD i noA = tt.getD i noA) ∧ wr = w.drewN k) (fun i _ => n - (intOf i).toNat)
    case atStart => exact ⟨0, 0, by omega, rfl, fun i hi => by omega, rfl⟩
    case round =>
      obtain ⟨j, k, hj, rfl, hall, rfl⟩ := hrel
      by_cases hlt : j < n
      · obtain ⟨b1, o1, hA, _, hc1⟩ := (unhide HA).at (show j < ss.length by rw [← unhide HNN]; exact hlt)
        obtain ⟨b2, o2, hA2, _, hc2⟩ := (unhide HB).at (show j < tt.length by rw [← unhide HL]; rw [unhide HNN] at hlt; exact hlt)
        subst hA hA2
        have q1 : (j : Int) < (n : Int) := by omega
        have q0 : (0 : Int) ≤ (j : Int) := by omega
        have HJ := hide hlt
        have HALL := hide hall
        have HNE : Hid (ss.getD j noA ≠ tt.getD j noA → ss ≠ tt) := hide fun h e => h (by rw [e])
        have HEQ : Hid (ss.getD j noA = tt.getD j noA → ∀ i, i < j + 1 → ss.getD i noA = tt.getD i noA) := hide fun h i hi => by
          by_cases e : i = j
          · subst e; exact h
          · exact hall i (by omega)
        clear hlt hj hall
        generalize ss.getD j noA = s1 at *
        generalize tt.getD j noA = s2 at *
        obtain ⟨x1, y1⟩ := s1
        obtain ⟨x2, y2⟩ := s2
        obtain ⟨c0, c1⟩ := hc1
        obtain ⟨d0, d1⟩ := hc2
        dsimp only at c0 c1 d0 d1
        have e0 : ∀ k, (w.drewN k).cell? ⟨b1, o1 + j * 2, none⟩ = some (.int .i64 x1) := fun _ => c0
        have e1 : ∀ k, (w.drewN k).cell? ⟨b1, o1 + j * 2 + 1, none⟩ = some (.int .i64 y1) := fun _ => c1
        have f0 : ∀ k, (w.drewN k).cell? ⟨b2, o2 + j * 2, none⟩ = some (.int .i64 x2) := fun _ => d0
        have f1 : ∀ k, (w.drewN k).cell? ⟨b2, o2 + j * 2 + 1, none⟩ = some (.int .i64 y2) := fun _ => d1
        clear c0 c1 d0 d1
        by_cases he : (x1, y1) = (x2, y2)
        · have HE2 := hide (unhide HEQ he)
          obtain ⟨rfl, rfl⟩ := Prod.mk.inj he
          clear he HNE HEQ
          go_wp2
          go_quiet (fail)
          rw [show (w.drewN k).drewN nq = w.drewN (k + nq) by simp [World.drewN, Nat.add_assoc]]
          go_wp2
          go_roundw
          case rel => exact ⟨j + 1, _, unhide HJ, by go_num, unhide HE2, rfl⟩
          case measure => have := unhide HJ; simp [intOf]; omega
        · have HF := hide (decide_eq_false (unhide HNE he))
          clear HNE HEQ
          by_cases hx : x1 = x2
          · subst hx
            have hy : ¬ y1 = y2 := fun e => he (by rw [e])
            have hy2 : (y1 == y2) = false := by simpa using hy
            clear he hy
            go_wp2
            go_quiet (fail)
            rw [show (w.drewN k).drewN nq = w.drewN (k + nq) by simp [World.drewN, Nat.add_assoc]]
            go_wp2
            go_ret
            exact ⟨by rw [unhide HF]; rfl, _, rfl⟩
          · have hx2 : (x1 == x2) = false := by simpa using hx
            clear he hx
            go_wp2
            go_quiet (fail)
            rw [show (w.drewN k).drewN nq = w.drewN (k + nq) by simp [World.drewN, Nat.add_assoc]]
            go_wp2
            go_ret
            exact ⟨by rw [unhide HF]; rfl, _, rfl⟩
      · obtain rfl : j = n := by omega
        have HE : Hid (decide (ss = tt) = true) := hide (decide_eq_true (List.ext_getElem (unhide HL) fun i h1 h2 => by
          have := hall i (by rw [unhide HNN]; exact h1)
          rw [List.getD_eq_getElem?_getD, List.getD_eq_getElem?_getD, List.getElem?_eq_getElem h1, List.getElem?_eq_getElem h2] at this
          exact this))
        clear hlt hall
        go_wp2
        go_ret
        exact ⟨by rw [unhide HE]; rfl, k, rfl⟩
  · have HE : Hid (decide (ss = tt) = false) := hide (decide_eq_false fun e => hl (by rw [e]))
    have q : ¬ (ss.length : Int) = (tt.length : Int) := by omega
    have q2 : ((ss.length : Int) != (tt.length : Int)) = true := by simpa using q
    clear hl
    go_enter Try.func56, Try.ntmps56
    go_wp2
    go_ret
    exact ⟨by rw [unhide HE]; rfl, 0, rfl⟩
def mgF (x y : Blm) (k i j : Nat) : Bool := x.b.getD (i * x.w.toNat + j) false || (decide (i < k) && y.b.getD (i * x.w.toNat + j) false)
def mergeX (x y : Blm) : Blm := ⟨x.p, x.w, x.s, bitsOf x.w.toNat x.s.length (mgF x y x.s.length)⟩
abbrev sameX (x y : Blm) : Prop := x.p = y.p ∧ x.w = y.w ∧ x.s = y.s
def mergeR (x y : Blm) : Blm × Int := if okX x && okX y then (if sameX x y then (mergeX x y, 0) else (noX, 3)) else (noX, 1)
theorem mergeR_bad {x y : Blm} (h : (okX x && okX y) = false) : mergeR x y = (noX, 1) := by unfold mergeR; rw [h]; rfl
theorem mergeR_form {x y : Blm} (h1 : okX x = true) (h2 : okX y = true) (h : ¬ sameX x y) : mergeR x y = (noX, 3) := by unfold mergeR; rw [h1, h2, if_neg h]; rfl
theorem mergeR_ok {x y : Blm} (h1 : okX x = true) (h2 : okX y = true) (h : sameX x y) : mergeR x y = (mergeX x y, 0) := by unfold mergeR; rw [h1, h2, if_pos h]; rfl
theorem mgF_step (x y : Blm) (k i j : Nat) : (mgF x y k i j || (decide (i = k) && y.b.getD (i * x.w.toNat + j) false)) = mgF x y (k + 1) i j := by
  unfold mgF
  rw [Bool.or_assoc]
  congr 1
  by_cases e : i = k
  · subst e
    rw [decide_eq_false (show ¬ i < i by omega), decide_eq_true (show i < i + 1 by omega)]
    simp
  · rw [decide_eq_false e, Bool.false_and, Bool.or_false]
    congr 1
    rw [decide_eq_decide]; omega
theorem mgF_zero (x y : Blm) (i j : Nat) : mgF x y 0 i j = x.b.getD (i * x.w.toNat + j) false := by unfold mgF; simp
theorem merge20 (v u : Value) (x y : Blm) (w : World) (hv : blmV w v x) (hu : blmV w u y) (hn : x.s.length ≤ 2097152) (hn' : x.b.length ≤ 2097152) (hm : y.s.length ≤ 2097152) (hm' : y.b.length ≤ 2097152) :
    Calls Try.prog 20 #[v, u] w fun e w' => outX w (mergeR x y).1 (mergeR x y).2 e w' := by
  obtain ⟨a, b, rfl, ha, hb⟩ := hv
  obtain ⟨a', b', rfl, ha', hb'⟩ := hu
  obtain ⟨A, ca, rfl⟩ := ha.slice
  obtain ⟨A2, cb, rfl⟩ := hb.slice
  obtain ⟨E, ce, rfl⟩ := ha'.slice
  obtain ⟨E2, cf, rfl⟩ := hb'.slice
  have B0 : Below w.heap.size w (w.alloc (.cells #[.int .i64 x.p, .int .i64 x.w, .slice A x.s.length ca, .slice A2 x.b.length cb] 26)) := bl_al (Below.refl _ _)
  have e0 : (w.alloc (.cells #[.int .i64 x.p, .int .i64 x.w, .slice A x.s.length ca, .slice A2 x.b.length cb] 26)).heap.size = w.heap.size + 1 := by simp
  have B1 : Below (w.alloc (.cells #[.int .i64 x.p, .int .i64 x.w, .slice A x.s.length ca, .slice A2 x.b.length cb] 26)).heap.size (w.alloc (.cells #[.int .i64 x.p, .int .i64 x.w, .slice A x.s.length ca, .slice A2 x.b.length cb] 26)) ((w.alloc (.cells #[.int .i64 x.p, .int .i64 x.w, .slice A x.s.length ca, .slice A2 x.b.length cb] 26)).alloc (.cells #[.int .i64 y.p, .int .i64 y.w, .slice E y.s.length ce, .slice E2 y.b.length cf] 26)) := bl_al (Below.refl _ _)
  have e1 : ((w.alloc (.cells #[.int .i64 x.p, .int .i64 x.w, .slice A x.s.length ca, .slice A2 x.b.length cb] 26)).alloc (.cells #[.int .i64 y.p, .int .i64 y.w, .slice E y.s.length ce, .slice E2 y.b.length cf] 26)).heap.size = w.heap.size + 1 + 1 := by simp
  have B2 : Below ((w.alloc (.cells #[.int .i64 x.p, .int .i64 x.w, .slice A x.s.length ca, .slice A2 x.b.length cb] 26)).alloc (.cells #[.int .i64 y.p, .int .i64 y.w, .slice E y.s.length ce, .slice E2 y.b.length cf] 26)).heap.size ((w.alloc (.cells #[.int .i64 x.p, .int .i64 x.w, .slice A x.s.length ca, .slice A2 x.b.length cb] 26)).alloc (.cells #[.int .i64 y.p, .int .i64 y.w, .slice E y.s.length ce, .slice E2 y.b.length cf] 26)) (((w.alloc (.cells #[.int .i64 x.p, .int .i64 x.w, .slice A x.s.length ca, .slice A2 x.b.length cb] 26)).alloc (.cells #[.int .i64 y.p, .int .i64 y.w, .slice E y.s.length ce, .slice E2 y.b.length cf] 26)).alloc (.cells #[.int .i64 0, .int .i64 0, .slice none 0 0, .slice none 0 0] 26)) := bl_al (Below.refl _ _)
  have C := ((bc_new w x.p x.w (.slice A x.s.length ca) (.slice A2 x.b.length cb) 26).below B1).below B2
  have D := (bc_new (w.alloc (.cells #[.int .i64 x.p, .int .i64 x.w, .slice A x.s.length ca, .slice A2 x.b.length cb] 26)) y.p y.w (.slice E y.s.length ce) (.slice E2 y.b.length cf) 26).below B2
  have N1 := hide (heap_alloc_new ((w.alloc (.cells #[.int .i64 x.p, .int .i64 x.w, .slice A x.s.length ca, .slice A2 x.b.length cb] 26)).alloc (.cells #[.int .i64 y.p, .int .i64 y.w, .slice E y.s.length ce, .slice E2 y.b.length cf] 26)) (.cells #[.int .i64 0, .int .i64 0, .slice none 0 0, .slice none 0 0] 26))
  rw [e0] at D
  rw [e1] at N1
  have E1 : Hid ((((w.alloc (.cells #[.int .i64 x.p, .int .i64 x.w, .slice A x.s.length ca, .slice A2 x.b.length cb] 26)).alloc (.cells #[.int .i64 y.p, .int .i64 y.w, .slice E y.s.length ce, .slice E2 y.b.length cf] 26)).alloc (.cells #[.int .i64 0, .int .i64 0, .slice none 0 0, .slice none 0 0] 26)).heap.size = w.heap.size + 1 + 1 + 1) := hide (by simp)
  have HB := hide (bl_st B2 (bl_st B1 B0))
  have HX : Hid (blmV (((w.alloc (.cells #[.int .i64 x.p, .int .i64 x.w, .slice A x.s.length ca, .slice A2 x.b.length cb] 26)).alloc (.cells #[.int .i64 y.p, .int .i64 y.w, .slice E y.s.length ce, .slice E2 y.b.length cf] 26)).alloc (.cells #[.int .i64 0, .int .i64 0, .slice none 0 0, .slice none 0 0] 26)) (bloV x.p x.w (.slice A x.s.length ca) (.slice A2 x.b.length cb)) x) := hide ⟨_, _, rfl, ha.below (unhide HB), hb.below (unhide HB)⟩
  have HY : Hid (blmV (((w.alloc (.cells #[.int .i64 x.p, .int .i64 x.w, .slice A x.s.length ca, .slice A2 x.b.length cb] 26)).alloc (.cells #[.int .i64 y.p, .int .i64 y.w, .slice E y.s.length ce, .slice E2 y.b.length cf] 26)).alloc (.cells #[.int .i64 0, .int .i64 0, .slice none 0 0, .slice none 0 0] 26)) (bloV y.p y.w (.slice E y.s.length ce) (.slice E2 y.b.length cf)) y) := hide ⟨_, _, rfl, ha'.below (unhide HB), hb'.below (unhide HB)⟩
  have K1 := hide (ok15 _ x _ (unhide HX) hn hn')
  have K2 := hide (fun W (h : blmV W (bloV y.p y.w (.slice E y.s.length ce) (.slice E2 y.b.length cf)) y) => ok15 _ y W h hm hm')
  have HC := hide C
  have HD := hide D
  have HA := hide (ha.below (unhide HB))
  have HBB := hide (hb.below (unhide HB))
  have HA' := hide (ha'.below (unhide HB))
  have HBB' := hide (hb'.below (unhide HB))
  obtain ⟨_, c0, c1, c2, c3⟩ := C
  obtain ⟨_, d0, d1, d2, d3⟩ := D
  have HN := hide hn
  have HN' := hide hn'
  have HM := hide hm
  clear B0 B1 B2 e0 e1 ha hb ha' hb' hn hn' hm hm'
  generalize hw3 : (((w.alloc (.cells #[.int .i64 x.p, .int .i64 x.w, .slice A x.s.length ca, .slice A2 x.b.length cb] 26)).alloc (.cells #[.int .i64 y.p, .int .i64 y.w, .slice E y.s.length ce, .slice E2 y.b.length cf] 26)).alloc (.cells #[.int .i64 0, .int .i64 0, .slice none 0 0, .slice none 0 0] 26)) = w3 at *
  have HW3 := hide hw3
  have hw4 := hw3
  clear hw4
  generalize hr1 : okX x = u1 at *
  generalize hr2 : okX y = u2 at *
  have HR1 := hide hr1
  have HR2 := hide hr2
  clear hr1 hr2 hw3
  cases u1
  · have HE := hide (mergeR_bad (x := x) (y := y) (by rw [unhide HR1]; rfl))
    clear HX HY HA HBB HA' HBB' HN HN' HM K2
    obtain ⟨p, wd, ss, bs⟩ := x
    obtain ⟨p', wd', ss', bs'⟩ := y
    dsimp only at *
    go_enter Try.func20, Try.ntmps20
    go_wp2_with fail
    rw [unhide HW3]
    refine (unhide K1).mono ?_
    rintro e w1 ⟨rfl, b1⟩
    have B1 := hide (bl_st b1 (unhide HB))
    have n1 := (b1.block _ (Array.getElem?_eq_some_iff.1 (unhide N1)).1).trans (unhide N1)
    clear c0 c1 c2 c3 d0 d1 d2 d3
    clear b1
    have p0 : w1.cell? ⟨w.heap.size + 1 + 1, 0, none⟩ = some (.int .i64 0) := row_cell n1
    have y0 : w1.frozen? ⟨w.heap.size + 1 + 1, 0, none⟩ = false := row_free n1
    have p1 : w1.cell? ⟨w.heap.size + 1 + 1, 1, none⟩ = some (.int .i64 0) := row_cell n1
    have y1 : w1.frozen? ⟨w.heap.size + 1 + 1, 1, none⟩ = false := row_free n1
    have p2 : w1.cell? ⟨w.heap.size + 1 + 1, 2, none⟩ = some (.slice none 0 0) := row_cell n1
    have y2 : w1.frozen? ⟨w.heap.size + 1 + 1, 2, none⟩ = false := row_free n1
    have p3 : w1.cell? ⟨w.heap.size + 1 + 1, 3, none⟩ = some (.slice none 0 0) := row_cell n1
    have y3 : w1.frozen? ⟨w.heap.size + 1 + 1, 3, none⟩ = false := row_free n1
    have NN := hide n1
    clear n1
    go_wp2
    rw [unhide HE]
    exact bodyPost_ret (results_tmp_row rfl _ _ (w.heap.size + 1 + 1) 26 _ (0, 0) _ _ rfl rfl (row_put4 (unhide NN) 0 0 (.slice none 0 0) (.slice none 0 0)) Try.underlying26 rfl (by kernel_rfl)) rfl ⟨_, rfl, own_noX _ _ _, bl_put4 (unhide B1) (by omega)⟩
  cases u2
  · have HE := hide (mergeR_bad (x := x) (y := y) (by rw [unhide HR2, Bool.and_false]))
    generalize mergeR x y = rr at *
    clear HA HBB HA' HBB' HN HN' HM HR1 HR2
    go_enter Try.func20, Try.ntmps20
    go_wp2_with fail
    rw [unhide HW3]
    refine (unhide K1).mono ?_
    rintro e w1 ⟨rfl, b1⟩
    have B1 := hide (bl_st b1 (unhide HB))
    have n1 := (b1.block _ (Array.getElem?_eq_some_iff.1 (unhide N1)).1).trans (unhide N1)
    clear c0 c1 c2 c3 d0 d1 d2 d3
    have C1 := hide ((unhide HC).below b1)
    have D1 := hide ((unhide HD).below b1)
    have X1 := hide ((unhide HX).below b1)
    have Y1 := hide ((unhide HY).below b1)
    have NN1 := hide n1
    have bb1 := hide b1
    clear n1 b1
    obtain ⟨_, d0, d1, d2, d3⟩ := unhide D1
    go_wp2_with fail
    refine (unhide K2 w1 (unhide Y1)).mono ?_
    rintro e w4 ⟨rfl, b4⟩
    have B4 := hide (bl_st b4 (unhide B1))
    have n4 := (b4.block _ (Array.getElem?_eq_some_iff.1 (unhide NN1)).1).trans (unhide NN1)
    clear d0 d1 d2 d3
    clear b4
    have p0 : w4.cell? ⟨w.heap.size + 1 + 1, 0, none⟩ = some (.int .i64 0) := row_cell n4
    have y0 : w4.frozen? ⟨w.heap.size + 1 + 1, 0, none⟩ = false := row_free n4
    have p1 : w4.cell? ⟨w.heap.size + 1 + 1, 1, none⟩ = some (.int .i64 0) := row_cell n4
    have y1 : w4.frozen? ⟨w.heap.size + 1 + 1, 1, none⟩ = false := row_free n4
    have p2 : w4.cell? ⟨w.heap.size + 1 + 1, 2, none⟩ = some (.slice none 0 0) := row_cell n4
    have y2 : w4.frozen? ⟨w.heap.size + 1 + 1, 2, none⟩ = false := row_free n4
    have p3 : w4.cell? ⟨w.heap.size + 1 + 1, 3, none⟩ = some (.slice none 0 0) := row_cell n4
    have y3 : w4.frozen? ⟨w.heap.size + 1 + 1, 3, none⟩ = false := row_free n4
    have NN := hide n4
    clear n4
    go_wp2
    rw [unhide HE]
    exact bodyPost_ret (results_tmp_row rfl _ _ (w.heap.size + 1 + 1) 26 _ (0, 0) _ _ rfl rfl (row_put4 (unhide NN) 0 0 (.slice none 0 0) (.slice none 0 0)) Try.underlying26 rfl (by kernel_rfl)) rfl ⟨_, rfl, own_noX _ _ _, bl_put4 (unhide B4) (by omega)⟩
  by_cases hp : x.p = y.p
  rotate_left
  · have hne : ¬ sameX x y := fun h => hp h.1
    have q1 : (x.p != y.p) = true := by simpa using hp
    clear hp
    have HE := hide (mergeR_form (unhide HR1) (unhide HR2) hne)
    generalize mergeR x y = rr at *
    clear HA HBB HA' HBB' HN HN' HM HR1 HR2 hne
    go_enter Try.func20, Try.ntmps20
    go_wp2_with fail
    rw [unhide HW3]
    refine (unhide K1).mono ?_
    rintro e w1 ⟨rfl, b1⟩
    have B1 := hide (bl_st b1 (unhide HB))
    have n1 := (b1.block _ (Array.getElem?_eq_some_iff.1 (unhide N1)).1).trans (unhide N1)
    clear c0 c1 c2 c3 d0 d1 d2 d3
    have C1 := hide ((unhide HC).below b1)
    have D1 := hide ((unhide HD).below b1)
    have Y1 := hide ((unhide HY).below b1)
    have NN1 := hide n1
    have bb1 := hide b1
    clear n1 b1
    obtain ⟨_, d0, d1, d2, d3⟩ := unhide D1
    go_wp2_with fail
    refine (unhide K2 w1 (unhide Y1)).mono ?_
    rintro e w4 ⟨rfl, b4⟩
    have B4 := hide (bl_st b4 (unhide B1))
    have n4 := (b4.block _ (Array.getElem?_eq_some_iff.1 (unhide NN1)).1).trans (unhide NN1)
    clear d0 d1 d2 d3
    have C4 := hide ((unhide C1).below b4)
    have D4 := hide ((unhide D1).below b4)
    have b34 := bl_st b4 (unhide bb1)
    have L4 := hide (show w.heap.size + 1 + 1 + 1 ≤ w4.heap.size by have := b34.size; have := unhide E1; omega)
    clear b4 b34
    obtain ⟨_, c0, c1, c2, c3⟩ := unhide C4
    obtain ⟨_, d0, d1, d2, d3⟩ := unhide D4
    have p0 : w4.cell? ⟨w.heap.size + 1 + 1, 0, none⟩ = some (.int .i64 0) := row_cell n4
    have y0 : w4.frozen? ⟨w.heap.size + 1 + 1, 0, none⟩ = false := row_free n4
    have p1 : w4.cell? ⟨w.heap.size + 1 + 1, 1, none⟩ = some (.int .i64 0) := row_cell n4
    have y1 : w4.frozen? ⟨w.heap.size + 1 + 1, 1, none⟩ = false := row_free n4
    have p2 : w4.cell? ⟨w.heap.size + 1 + 1, 2, none⟩ = some (.slice none 0 0) := row_cell n4
    have y2 : w4.frozen? ⟨w.heap.size + 1 + 1, 2, none⟩ = false := row_free n4
    have p3 : w4.cell? ⟨w.heap.size + 1 + 1, 3, none⟩ = some (.slice none 0 0) := row_cell n4
    have y3 : w4.frozen? ⟨w.heap.size + 1 + 1, 3, none⟩ = false := row_free n4
    have NN := hide n4
    clear n4
    go_wp2
    rw [unhide HE]
    exact bodyPost_ret (results_tmp_row rfl _ _ (w.heap.size + 1 + 1) 26 _ (0, 0) _ _ rfl rfl (row_put4 (unhide NN) 0 0 (.slice none 0 0) (.slice none 0 0)) Try.underlying26 rfl (by kernel_rfl)) rfl ⟨_, rfl, own_noX _ _ _, bl_put4 (unhide B4) (by omega)⟩
  by_cases hw : x.w = y.w
  rotate_left
  · have hne : ¬ sameX x y := fun h => hw h.2.1
    have q1 : (x.w != y.w) = true := by simpa using hw
    have q0 : (x.p != y.p) = false := by simp [hp]
    clear hw hp
    have HE := hide (mergeR_form (unhide HR1) (unhide HR2) hne)
    generalize mergeR x y = rr at *
    clear HA HBB HA' HBB' HN HN' HM HR1 HR2 hne
    go_enter Try.func20, Try.ntmps20
    go_wp2_with fail
    rw [unhide HW3]
    refine (unhide K1).mono ?_
    rintro e w1 ⟨rfl, b1⟩
    have B1 := hide (bl_st b1 (unhide HB))
    have n1 := (b1.block _ (Array.getElem?_eq_some_iff.1 (unhide N1)).1).trans (unhide N1)
    clear c0 c1 c2 c3 d0 d1 d2 d3
    have C1 := hide ((unhide HC).below b1)
    have D1 := hide ((unhide HD).below b1)
    have Y1 := hide ((unhide HY).below b1)
    have NN1 := hide n1
    have bb1 := hide b1
    clear n1 b1
    obtain ⟨_, d0, d1, d2, d3⟩ := unhide D1
    go_wp2_with fail
    refine (unhide K2 w1 (unhide Y1)).mono ?_
    rintro e w4 ⟨rfl, b4⟩
    have B4 := hide (bl_st b4 (unhide B1))
    have n4 := (b4.block _ (Array.getElem?_eq_some_iff.1 (unhide NN1)).1).trans (unhide NN1)
    clear d0 d1 d2 d3
    have C4 := hide ((unhide C1).below b4)
    have D4 := hide ((unhide D1).below b4)
    have b34 := bl_st b4 (unhide bb1)
    have L4 := hide (show w.heap.size + 1 + 1 + 1 ≤ w4.heap.size by have := b34.size; have := unhide E1; omega)
    clear b4 b34
    obtain ⟨_, c0, c1, c2, c3⟩ := unhide C4
    obtain ⟨_, d0, d1, d2, d3⟩ := unhide D4
    have p0 : w4.cell? ⟨w.heap.size + 1 + 1, 0, none⟩ = some (.int .i64 0) := row_cell n4
    have y0 : w4.frozen? ⟨w.heap.size + 1 + 1, 0, none⟩ = false := row_free n4
    have p1 : w4.cell? ⟨w.heap.size + 1 + 1, 1, none⟩ = some (.int .i64 0) := row_cell n4
    have y1 : w4.frozen? ⟨w.heap.size + 1 + 1, 1, none⟩ = false := row_free n4
    have p2 : w4.cell? ⟨w.heap.size + 1 + 1, 2, none⟩ = some (.slice none 0 0) := row_cell n4
    have y2 : w4.frozen? ⟨w.heap.size + 1 + 1, 2, none⟩ = false := row_free n4
    have p3 : w4.cell? ⟨w.heap.size + 1 + 1, 3, none⟩ = some (.slice none 0 0) := row_cell n4
    have y3 : w4.frozen? ⟨w.heap.size + 1 + 1, 3, none⟩ = false := row_free n4
    have NN := hide n4
    clear n4
    go_wp2
    rw [unhide HE]
    exact bodyPost_ret (results_tmp_row rfl _ _ (w.heap.size + 1 + 1) 26 _ (0, 0) _ _ rfl rfl (row_put4 (unhide NN) 0 0 (.slice none 0 0) (.slice none 0 0)) Try.underlying26 rfl (by kernel_rfl)) rfl ⟨_, rfl, own_noX _ _ _, bl_put4 (unhide B4) (by omega)⟩
  have q0 : (x.p != y.p) = false := by simp [hp]
  have q1 : (x.w != y.w) = false := by simp [hw]
  have K3 := hide (fun W (h1 : saltsV W (.slice A x.s.length ca) x.s) (h2 : saltsV W (.slice E y.s.length ce) y.s) => equal56 _ _ x.s y.s W h1 h2 (unhide HN) (unhide HM))
  by_cases hs : x.s = y.s
  rotate_left
  · have hne : ¬ sameX x y := fun h => hs h.2.2
    rw [decide_eq_false hs] at K3
    have HE := hide (mergeR_form (unhide HR1) (unhide HR2) hne)
    generalize mergeR x y = rr at *
    clear hs hp hw HBB HBB' HN HN' HM HR1 HR2 hne
    go_enter Try.func20, Try.ntmps20
    go_wp2_with fail
    rw [unhide HW3]
    refine (unhide K1).mono ?_
    rintro e w1 ⟨rfl, b1⟩
    have B1 := hide (bl_st b1 (unhide HB))
    have n1 := (b1.block _ (Array.getElem?_eq_some_iff.1 (unhide N1)).1).trans (unhide N1)
    clear c0 c1 c2 c3 d0 d1 d2 d3
    have C1 := hide ((unhide HC).below b1)
    have D1 := hide ((unhide HD).below b1)
    have Y1 := hide ((unhide HY).below b1)
    have NN1 := hide n1
    have bb1 := hide b1
    clear n1 b1
    obtain ⟨_, d0, d1, d2, d3⟩ := unhide D1
    go_wp2_with fail
    refine (unhide K2 w1 (unhide Y1)).mono ?_
    rintro e w4 ⟨rfl, b4⟩
    have B4 := hide (bl_st b4 (unhide B1))
    have n4 := (b4.block _ (Array.getElem?_eq_some_iff.1 (unhide NN1)).1).trans (unhide NN1)
    clear d0 d1 d2 d3
    have C4 := hide ((unhide C1).below b4)
    have D4 := hide ((unhide D1).below b4)
    have b34 := bl_st b4 (unhide bb1)
    have L4 := hide (show w.heap.size + 1 + 1 + 1 ≤ w4.heap.size by have := b34.size; have := unhide E1; omega)
    have SA := hide ((unhide HA).below b34)
    have SB := hide ((unhide HA').below b34)
    clear b4 b34
    obtain ⟨_, c0, c1, c2, c3⟩ := unhide C4
    obtain ⟨_, d0, d1, d2, d3⟩ := unhide D4
    go_wp2_with fail
    refine (unhide K3 w4 (unhide SA) (unhide SB)).mono ?_
    rintro e w5 ⟨rfl, kk, rfl⟩
    have n5 : (w4.drewN kk).heap[w.heap.size + 1 + 1]? = _ := n4
    have B5 := hide (below_drewN (unhide B4) kk)
    clear n4 c0 c1 c2 c3 d0 d1 d2 d3
    generalize w4.drewN kk = w5 at *
    have p0 : w5.cell? ⟨w.heap.size + 1 + 1, 0, none⟩ = some (.int .i64 0) := row_cell n5
    have y0 : w5.frozen? ⟨w.heap.size + 1 + 1, 0, none⟩ = false := row_free n5
    have p1 : w5.cell? ⟨w.heap.size + 1 + 1, 1, none⟩ = some (.int .i64 0) := row_cell n5
    have y1 : w5.frozen? ⟨w.heap.size + 1 + 1, 1, none⟩ = false := row_free n5
    have p2 : w5.cell? ⟨w.heap.size + 1 + 1, 2, none⟩ = some (.slice none 0 0) := row_cell n5
    have y2 : w5.frozen? ⟨w.heap.size + 1 + 1, 2, none⟩ = false := row_free n5
    have p3 : w5.cell? ⟨w.heap.size + 1 + 1, 3, none⟩ = some (.slice none 0 0) := row_cell n5
    have y3 : w5.frozen? ⟨w.heap.size + 1 + 1, 3, none⟩ = false := row_free n5
    have NN := hide n5
    clear n5
    go_wp2
    rw [unhide HE]
    exact bodyPost_ret (results_tmp_row rfl _ _ (w.heap.size + 1 + 1) 26 _ (0, 0) _ _ rfl rfl (row_put4 (unhide NN) 0 0 (.slice none 0 0) (.slice none 0 0)) Try.underlying26 rfl (by kernel_rfl)) rfl ⟨_, rfl, own_noX _ _ _, bl_put4 (unhide B5) (by omega)⟩
  have hrx := right_of (unhide HR1)
  have hry := right_of (unhide HR2)
  have HE := hide (mergeR_ok (unhide HR1) (unhide HR2) ⟨hp, hw, hs⟩)
  rw [decide_eq_true hs] at K3
  obtain ⟨M, hM⟩ : ∃ M : Nat, x.w = (M : Int) := ⟨x.w.toNat, by have := hrx.w1; omega⟩
  have hMt : x.w.toNat = M := by omega
  have hMy : y.w.toNat = M := by omega
  have M1 : 1 ≤ M := by have := hrx.w1; omega
  have M64 : M ≤ 64 := by have := hrx.w64; omega
  have sl : y.s.length = x.s.length := by rw [hs]
  have n1 : 1 ≤ x.s.length := hrx.s1
  have n4 : x.s.length ≤ 4 := hrx.s4
  have K4 := hide (fun W (hq : BC w.heap.size x.p x.w (.slice A x.s.length ca) (.slice A2 x.b.length cb) W) (h1 : saltsV W (.slice A x.s.length ca) x.s) (h2 : boolsV W (.slice A2 x.b.length cb) x.b) => parts50 w.heap.size x _ _ W hq h1 h2 hrx)
  have K5 := hide (fun W (hq : BC (w.heap.size + 1) y.p y.w (.slice E y.s.length ce) (.slice E2 y.b.length cf) W) (h1 : saltsV W (.slice E y.s.length ce) y.s) (h2 : boolsV W (.slice E2 y.b.length cf) y.b) => parts50 (w.heap.size + 1) y _ _ W hq h1 h2 hry)
  rw [hMt] at K4
  rw [hMy] at K5
  have HSL := hide sl
  have HF0 : Hid (∀ us, holds M x.s.length us (fun i j => x.b.getD (i * M + j) false) → holds M x.s.length us (mgF x y 0)) := hide fun us h => h.congr fun i j _ _ => by rw [mgF_zero, hMt]
  have HFS : Hid (∀ us vs k, k < x.s.length → holds M x.s.length us (mgF x y k) → holds M x.s.length vs (fun i j => y.b.getD (i * M + j) false) → holds M x.s.length (us.set k (us.getD k 0 ||| vs.getD k 0)) (mgF x y (k + 1))) := hide fun us vs k hk h h' => (h.join h' hk).congr fun i j _ _ => by rw [← mgF_step, hMt]
  have HAX : Hid (mergeX x y = ⟨x.p, x.w, x.s, bitsOf M x.s.length (mgF x y x.s.length)⟩) := hide (by unfold mergeX; rw [hMt])
  have K6 := hide (fun g us rest cp W hq h1 hg hh => with48 w.heap.size g x.p M x.s.length (.slice A x.s.length ca) (.slice A2 x.b.length cb) x.s us rest cp (mgF x y x.s.length) W hq h1 rfl n1 n4 M1 M64 hg hh)
  rw [← hM] at K6
  clear HX HN HN' HM hrx hry hMt hMy M1 M64 hp hw hs HR1 HR2 hM sl
  generalize mgF x y = ff at *
  generalize mergeX x y = yy at *
  generalize mergeR x y = rr at *
  rw [unhide HE]
  clear HE
  have nI : (x.s.length : Int) ≤ 4 := by omega
  have n0 : (0 : Int) ≤ (x.s.length : Int) := by omega
  clear n1 n4
  go_enter Try.func20, Try.ntmps20
  go_wp2_with fail
  rw [unhide HW3]
  refine (unhide K1).mono ?_
  rintro e w1 ⟨rfl, b1⟩
  have B1 := hide (bl_st b1 (unhide HB))
  have n1 := (b1.block _ (Array.getElem?_eq_some_iff.1 (unhide N1)).1).trans (unhide N1)
  clear c0 c1 c2 c3 d0 d1 d2 d3
  have C1 := hide ((unhide HC).below b1)
  have D1 := hide ((unhide HD).below b1)
  have Y1 := hide ((unhide HY).below b1)
  have NN1 := hide n1
  have bb1 := hide b1
  clear n1 b1
  obtain ⟨_, d0, d1, d2, d3⟩ := unhide D1
  go_wp2_with fail
  refine (unhide K2 w1 (unhide Y1)).mono ?_
  rintro e w4 ⟨rfl, b4⟩
  have B4 := hide (bl_st b4 (unhide B1))
  have n4 := (b4.block _ (Array.getElem?_eq_some_iff.1 (unhide NN1)).1).trans (unhide NN1)
  clear d0 d1 d2 d3
  have C4 := hide ((unhide C1).below b4)
  have D4 := hide ((unhide D1).below b4)
  have b34 := bl_st b4 (unhide bb1)
  have L4 := hide (show w.heap.size + 1 + 1 + 1 ≤ w4.heap.size by have := b34.size; have := unhide E1; omega)
  have S4 := hide ((unhide HA).below b34)
  have S4' := hide ((unhide HA').below b34)
  have T4 := hide ((unhide HBB).below b34)
  have T4' := hide ((unhide HBB').below b34)
  have N4 := hide n4
  clear b4 b34 n4
  obtain ⟨_, c0, c1, c2, c3⟩ := unhide C4
  obtain ⟨_, d0, d1, d2, d3⟩ := unhide D4
  go_wp2_with fail
  refine (unhide K3 w4 (unhide S4) (unhide S4')).mono ?_
  rintro e w5 ⟨rfl, kk, rfl⟩
  clear c0 c1 c2 c3 d0 d1 d2 d3
  have b45 : Below w4.heap.size w4 (w4.drewN kk) := below_drewN (Below.refl _ _) kk
  have B5 := hide (bl_st b45 (unhide B4))
  have C5 := hide ((unhide C4).below b45)
  have D5 := hide ((unhide D4).below b45)
  have S5 := hide ((unhide S4).below b45)
  have S5' := hide ((unhide S4').below b45)
  have T5 := hide ((unhide T4).below b45)
  have T5' := hide ((unhide T4').below b45)
  have N5 := hide ((b45.block _ (Array.getElem?_eq_some_iff.1 (unhide N4)).1).trans (unhide N4))
  have L5 : Hid (w.heap.size + 1 + 1 + 1 ≤ (w4.drewN kk).heap.size) := L4
  clear b45 C4 D4 S4 S4' T4 T4' N4 L4 B4 B1 bb1 NN1 C1 D1 Y1
  go_wp2_with fail
  generalize w4.drewN kk = w5 at *
  refine (unhide K4 w5 (unhide C5) (unhide S5) (unhide T5)).mono ?_
  rintro e w6 ⟨r, us0, rfl, ow, hh, b6⟩
  obtain ⟨g, cp, rest, rfl, hg1, hg2, hg⟩ := ow
  have ul := hh.len
  have HG := hide hg
  have HG1 := hide hg1
  have HG2 := hide hg2
  have HH := hide (unhide HF0 us0 hh)
  have D6 := (unhide D5).below b6
  have B6 := hide b6
  have K7 := hide (unhide K5 w6 D6 ((unhide S5').below b6) ((unhide T5').below b6))
  clear hh hg hg1 hg2 K4 HF0 b6 D6 K5 S5' T5' D5 T5
  rw [ul]
  go_wp2_with fail
  refine (unhide K7).mono ?_
  rintro e w7 ⟨r2, vs, rfl, ow2, hh2, b7⟩
  obtain ⟨g', cp', rest', rfl, hg1', hg2', hg'⟩ := ow2
  rw [unhide HSL] at hh2
  have vl := hh2.len
  have HG' := hide hg'
  have HGG : Hid (g < g') := hide (by have := unhide HG2; omega)
  have HV := hide hh2
  have HG7 := hide ((b7.block g (Array.getElem?_eq_some_iff.1 (unhide HG)).1).trans (unhide HG))
  have B7 := hide (bl_st b7 (unhide B6))
  clear hh2 hg' hg1' hg2' b7 K7 HG
  rw [vl]
  go_wp2
  go_loopw [42] (fun i wr => ∃ (k : Nat) (us : List Nat), k ≤ x.s.length ∧ i = .int .i64 k ∧ holds M x.s.length us (ff k) ∧ wr.heap[g]? = some (wrdO us rest) ∧ wr.heap[g']? = some (wrdO vs rest') ∧ Below w5.heap.size w5 wr) (fun i _ => x.s.length - (intOf i).toNat)
  case atStart => exact ⟨0, us0, by omega, rfl, unhide HH, unhide HG7, unhide HG', unhide B7⟩
  case round =>
    obtain ⟨k, us, hk, rfl, hh, hg, hg', hbl⟩ := hrel
    by_cases hlt : k < x.s.length
    · have q1 : (k : Int) < (x.s.length : Int) := by omega
      have q0 : (0 : Int) ≤ (k : Int) := by omega
      have hku : k < us.length := by rw [hh.len]; exact hlt
      have hkv : k < vs.length := by rw [vl]; exact hlt
      have e0 := cell_wrdO hg' k hkv
      have KJ := hide (join57 g k (us.getD k 0) (vs.getD k 0) wr (hh.lt k hlt) ((unhide HV).lt k hlt) (cell_wrdO hg k hku) (free_wrdO hg k))
      have HST := hide (unhide HFS us vs k hlt hh (unhide HV))
      have HO := hide (set_wrdO hg k (us.getD k 0 ||| vs.getD k 0) hku)
      have HO' := hide (row_set_other (t' := g) (i := k) (v := .int .u64 ((us.getD k 0 ||| vs.getD k 0 : Nat) : Int)) hg' (by have := unhide HGG; omega))
      have HBL := hide (bl_set (i := k) (v := .int .u64 ((us.getD k 0 ||| vs.getD k 0 : Nat) : Int)) hbl (unhide HG1))
      have HJ := hide hlt
      clear hlt hk hh hg hg' hbl hku hkv
      generalize us.getD k 0 ||| vs.getD k 0 = nu at *
      generalize vs.getD k 0 = vk at *
      go_wp2_with fail
      refine (unhide KJ).mono ?_
      rintro e w8 ⟨rfl, hw8⟩
      rw [← hw8] at HO HO' HBL
      clear hw8 KJ e0
      go_wp2
      go_roundw
      case rel => exact ⟨k + 1, us.set k nu, unhide HJ, by go_num, unhide HST, unhide HO, unhide HO', unhide HBL⟩
      case measure => have := unhide HJ; simp [intOf]; omega
    · obtain rfl : k = x.s.length := by omega
      have KW := hide (unhide K6 g us rest cp wr ((unhide C5).below hbl) ((unhide S5).below hbl) hg hh)
      have BW := hide (bl_st hbl (unhide B5))
      have n2 := hide ((hbl.block _ (Array.getElem?_eq_some_iff.1 (unhide N5)).1).trans (unhide N5))
      have LW := hide hbl.size
      clear hlt hh hg hg' hbl K6
      go_wp2_with fail
      refine (unhide KW).mono ?_
      rintro e w9 ⟨r, rfl, ox, b9⟩
      obtain ⟨D1, m1, k1, D2, m2, k2, hre⟩ := ox.slices
      dsimp only at hre
      subst hre
      have B9 := hide (bl_st b9 (unhide BW))
      have OX := hide ox
      have n3 := (b9.block _ (Array.getElem?_eq_some_iff.1 (unhide n2)).1).trans (unhide n2)
      have p0 : w9.cell? ⟨w.heap.size + 1 + 1, 0, none⟩ = some (.int .i64 0) := row_cell n3
      have y0 : w9.frozen? ⟨w.heap.size + 1 + 1, 0, none⟩ = false := row_free n3
      have p1 : w9.cell? ⟨w.heap.size + 1 + 1, 1, none⟩ = some (.int .i64 0) := row_cell n3
      have y1 : w9.frozen? ⟨w.heap.size + 1 + 1, 1, none⟩ = false := row_free n3
      have p2 : w9.cell? ⟨w.heap.size + 1 + 1, 2, none⟩ = some (.slice none 0 0) := row_cell n3
      have y2 : w9.frozen? ⟨w.heap.size + 1 + 1, 2, none⟩ = false := row_free n3
      have p3 : w9.cell? ⟨w.heap.size + 1 + 1, 3, none⟩ = some (.slice none 0 0) := row_cell n3
      have y3 : w9.frozen? ⟨w.heap.size + 1 + 1, 3, none⟩ = false := row_free n3
      have N3 := hide n3
      clear b9 ox n3 KW
      go_wp2
      have l5 := unhide L5
      have lw := unhide LW
      refine bodyPost_ret (results_tmp_row rfl _ _ (w.heap.size + 1 + 1) 26 _ (0, 0) _ _ rfl rfl (row_put4 (unhide N3) x.p x.w (.slice D1 m1 k1) (.slice D2 m2 k2)) Try.underlying26 rfl (by kernel_rfl)) rfl ⟨_, rfl, ?_, bl_put4 (unhide B9) (by omega)⟩
      rw [unhide HAX]
      refine ((unhide OX).lone (lone_put4 w9 (w.heap.size + 1 + 1) x.p x.w _ _) (by omega)).wide (by omega) ?_
      rw [size_put4]
      exact Nat.le_refl _
end Go.Proofs.Ythckgccfjpgbaaa
