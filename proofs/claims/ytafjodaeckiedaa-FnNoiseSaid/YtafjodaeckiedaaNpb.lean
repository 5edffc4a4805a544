/- NoisePair: the program's side. -/
import Derived.Test.YtafjodaeckiedaaNpa
namespace Go.Proofs.Ytafjodaeckiedaa
open Go.RowKit
set_option maxHeartbeats 4000000
set_option maxRecDepth 20000
theorem pai19 (v : Value) (xs : List Int) (m a b : Int) (w : World) (hv : intsC w v xs) (hn : xs.length ≤ 1048576) :
    Calls Try.prog 19 #[v, .int .i64 m, .int .i64 a, .int .i64 b] w fun e w' => e = .returned (qV (paiR xs m a b)) ∧ Below w.heap.size w w' := by
  have K1 := hide (noises39 v xs (w.alloc (Obj.cells #[Value.int IntKind.i64 0, Value.int IntKind.i64 0] 32)) (hv.below (bl_al (Below.refl _ _))) hn 2 (by omega) m a b)
  obtain ⟨A, cap, rfl, _⟩ := hv.2
  clear hv hn
  have hsz := size_alloc w (Obj.cells #[Value.int IntKind.i64 0, Value.int IntKind.i64 0] 32)
  go_enter Try.func19, Try.ntmps19
  go_wp2_with fail
  refine (unhide K1).mono ?_
  rintro e w2 ⟨⟨u, t, c, rfl, h⟩, hb⟩
  have hrow : w2.heap[w.heap.size]? = some (.cells #[.int .i64 0, .int .i64 0] 32 (0, 0)) := (hb.block _ (by omega)).trans (heap_at _ _ _ rfl)
  have HB : Hid (Below w.heap.size w w2) := hide ((bl_al (Below.refl _ _)).trans (hb.mono (by omega)))
  have HR := hide hrow
  clear K1 hb hsz
  rcases h with ⟨h1, rfl, rfl, rfl⟩ | ⟨h1, h2, rfl, rfl, rfl⟩ | ⟨h1, rfl, ds, h2, ho⟩
  · have HE := hide (paiR_code rfl h1)
    have h3 : (nCode xs m a b != 0) = true := by simpa using h1
    generalize nCode xs m a b = c at *
    have c0 := row_cell (i := 0) hrow
    have c1 := row_cell (i := 1) hrow
    have f0 := row_free (i := 0) hrow
    have f1 := row_free (i := 1) hrow
    clear h1 hrow
    go_wp2
    refine bodyPost_ret (v := qV (0, 0, 0, c)) (results_two_row rfl _ _ w.heap.size 32 _ (0, 0) _ _ _ rfl rfl rfl (row_set (i := 1) (v := .int .i64 0) (row_set (i := 0) (v := .int .i64 0) (unhide HR))) Try.underlying32 rfl size32) rfl ?_
    exact ⟨by rw [unhide HE], bl_set (bl_set (unhide HB) (Nat.le_refl _)) (Nat.le_refl _)⟩
  · have HE : Hid (paiR xs m a b = (0, 0, 0, 14)) := hide (by rw [paiR_ok h1, show (4 : Nat) = 2 * 2 from rfl, h2]; rfl)
    have c0 := row_cell (i := 0) hrow
    have c1 := row_cell (i := 1) hrow
    have f0 := row_free (i := 0) hrow
    have f1 := row_free (i := 1) hrow
    clear h1 h2 hrow
    go_wp2
    refine bodyPost_ret (v := qV (0, 0, 0, 14)) (results_two_row rfl _ _ w.heap.size 32 _ (0, 0) _ _ _ rfl rfl rfl (row_set (i := 1) (v := .int .i64 0) (row_set (i := 0) (v := .int .i64 0) (unhide HR))) Try.underlying32 rfl size32) rfl ?_
    exact ⟨by rw [unhide HE], bl_set (bl_set (unhide HB) (Nat.le_refl _)) (Nat.le_refl _)⟩
  · obtain ⟨b1, _, _, _⟩ := cF_bd _ _ _ _ _ h2
    match ds, b1, h2, ho with
    | [g, h, p, q], _, h2, ho =>
      rw [show 2 * 2 = 4 from rfl] at h2
      have HE : Hid (paiR xs m a b = (clampN m g h, clampN m p q, t, 0)) := hide (by rw [paiR_ok h1, h2]; rfl)
      rw [show noisesL m [g, h, p, q] = [clampN m g h, clampN m p q] from rfl] at ho
      obtain ⟨k1, hk1⟩ : ∃ k1, k1 = clampN m g h := ⟨_, rfl⟩
      obtain ⟨k2, hk2⟩ : ∃ k2, k2 = clampN m p q := ⟨_, rfl⟩
      rw [← hk1, ← hk2] at ho HE
      obtain ⟨_, h0⟩ | ⟨gg, cp, rest, rfl, hg1, _, hcell, _⟩ := ho
      · cases h0
      · rw [size_alloc] at hg1
        have gne : gg ≠ w.heap.size := by omega
        have a0 := cell_rowO hcell 0 (by simp)
        have a1 := cell_rowO hcell 1 (by simp)
        rw [show ([k1, k2] : List Int).getD 0 0 = k1 from rfl] at a0
        rw [show ([k1, k2] : List Int).getD 1 0 = k2 from rfl] at a1
        have c0 := row_cell (i := 0) hrow
        have c1 := row_cell (i := 1) hrow
        have f0 := row_free (i := 0) hrow
        have f1 := row_free (i := 1) hrow
        rw [show ([k1, k2] : List Int).length = 2 from rfl]
        clear h1 h2 hrow hcell hk1 hk2 hg1
        go_wp2
        go_region
        go_wp2
        refine bodyPost_ret (v := qV (k1, k2, t, 0)) (results_two_row rfl _ _ w.heap.size 32 _ (0, 0) _ _ _ rfl rfl rfl (row_set (i := 1) (v := .int .i64 k2) (row_set (i := 0) (v := .int .i64 k1) (unhide HR))) Try.underlying32 rfl size32) rfl ?_
        exact ⟨by rw [unhide HE], bl_dr (bl_set (bl_set (unhide HB) (Nat.le_refl _)) (Nat.le_refl _))⟩
theorem eq29 (x y : Int) (w : World) : Calls Try.prog 29 #[.agg #[.int .i64 x, .int .i64 y], .agg #[.int .i64 x, .int .i64 y]] w fun e w' => e = .returned (.bool true) ∧ Below w.heap.size w w' := by
  go_enter Try.func29, Try.ntmps29
  go_wp2
  go_ret
  exact ⟨rfl, bl_al (bl_al (Below.refl _ _))⟩
theorem law_pai (w : World) (v : Value) (xs : List Int) (hv : intsV w v xs) (hl : xs.length ≤ maxLen) (m a b : Int) :
    Calls Try.prog 10 #[v, .int .i64 m, .int .i64 a, .int .i64 b] w fun e w' => e = .returned (.bool true) ∧ Below w.heap.size w w' := by
  have HV := hide hv
  obtain ⟨A, cap, rfl, hc⟩ := hv
  clear hc
  unfold maxLen at hl
  have n0 : (0 : Int) ≤ (xs.length : Int) := by omega
  have n1 : (xs.length : Int) ≤ 9223372036854775807 := by omega
  by_cases h1 : 1048576 < xs.length
  · have q : (1048576 : Int) < (xs.length : Int) := by omega
    clear h1 hl HV
    go_enter Try.func10, Try.ntmps10
    go_wp2
    go_ret
    exact ⟨rfl, Below.refl _ _⟩
  have q : (xs.length : Int) ≤ 1048576 := by omega
  have HN := hide (show xs.length ≤ 1048576 by omega)
  clear h1 hl
  have HTO : Hid (∀ u W, intsV W u xs → Calls Try.prog 26 #[u] W fun e w' => ∃ r, e = .returned r ∧ ownI W.heap.size w'.heap.size w' r xs ∧ Below W.heap.size W w') := hide fun u W hu => to6 u xs W hu (by have := unhide HN; omega)
  have HSP : Hid (∀ u W, intsC W u xs → Calls Try.prog 20 #[u, .int .i64 m, .int .i64 a, .int .i64 b] W fun e w' => e = .returned (qV (paiR xs m a b)) ∧ Below W.heap.size W w') := hide fun u W hu => pai20 u xs m a b W hu (unhide HN)
  have HIM : Hid (∀ u W, intsC W u xs → Calls Try.prog 19 #[u, .int .i64 m, .int .i64 a, .int .i64 b] W fun e w' => e = .returned (qV (paiR xs m a b)) ∧ Below W.heap.size W w') := hide fun u W hu => pai19 u xs m a b W hu (unhide HN)
  generalize paiR xs m a b = r at *
  obtain ⟨x, y, z, c⟩ := r
  have KEQ := hide (fun W => eq29 x y W)
  go_enter Try.func10, Try.ntmps10
  go_wp2_with fail
  refine (unhide HTO _ w (unhide HV)).mono ?_
  rintro e w2 ⟨u1, rfl, o2, b2⟩
  have B2 := hide b2
  have U2 := hide o2.intsC
  clear o2 b2
  go_wp2_with fail
  refine (unhide HSP _ w2 (unhide U2)).mono ?_
  rintro e w3 ⟨rfl, b3⟩
  have B3 := hide (bl_al (o := Obj.cells #[Value.int IntKind.i64 x, Value.int IntKind.i64 y] 32) (bl_st b3 (unhide B2)))
  clear U2 b3 B2
  have G3 := hide (heap_at w3 (Obj.cells #[Value.int IntKind.i64 x, Value.int IntKind.i64 y] 32) _ rfl)
  go_wp2_with fail
  refine (unhide HTO _ _ ((unhide HV).below (unhide B3))).mono ?_
  rintro e w4 ⟨u, rfl, o4, b4⟩
  have B4 := hide (bl_st b4 (unhide B3))
  have U4 := hide o4.intsC
  have G4 : Hid (w4.heap[w3.heap.size]? = some (.cells #[.int .i64 x, .int .i64 y] 32 (0, 0))) := hide ((b4.block _ (by rw [size_alloc]; omega)).trans (unhide G3))
  clear o4 b4 B3 G3
  go_wp2_with fail
  refine (unhide HIM _ w4 (unhide U4)).mono ?_
  rintro e w5 ⟨rfl, b5⟩
  have B5 := hide (bl_al (o := Obj.cells #[Value.int IntKind.i64 x, Value.int IntKind.i64 y] 32) (bl_st b5 (unhide B4)))
  have U5 := hide (((unhide U4).1.below b5).below (bl_al (o := Obj.cells #[Value.int IntKind.i64 x, Value.int IntKind.i64 y] 32) (Below.refl _ _)))
  have g5 : w5.heap[w3.heap.size]? = some (.cells #[.int .i64 x, .int .i64 y] 32 (0, 0)) := (b5.block _ (Array.getElem?_eq_some_iff.1 (unhide G4)).1).trans (unhide G4)
  have g6 : (w5.alloc (Obj.cells #[Value.int IntKind.i64 x, Value.int IntKind.i64 y] 32)).heap[w3.heap.size]? = some (.cells #[.int .i64 x, .int .i64 y] 32 (0, 0)) := get_alloc_old g5
  have c0 := row_cell (i := 0) g5
  have c1 := row_cell (i := 1) g5
  have lt5 := (Array.getElem?_eq_some_iff.1 g5).1
  have d0 := row_cell (i := 0) g6
  have d1 := row_cell (i := 1) g6
  clear b5 B4 U4 G4 g5 g6
  go_wp2_with fail
  refine (unhide KEQ _).mono ?_
  rintro e w6 ⟨rfl, b6⟩
  have B6 := hide (bl_st b6 (unhide B5))
  have U6 := hide ((unhide U5).below b6)
  clear b6 B5 U5 c0 c1 d0 d1 lt5 KEQ
  go_wp2_with fail
  refine (unhide HTO _ w6 ((unhide HV).below (unhide B6))).mono ?_
  rintro e w7 ⟨u7, rfl, o7, b7⟩
  have B7 := hide (bl_st b7 (unhide B6))
  have U7 := hide ((unhide U6).below b7)
  have V7 := hide o7.ints
  clear o7 b7 B6 U6
  go_wp2_with fail
  refine (eq8 _ _ xs w7 (unhide U7) (unhide V7) (by have := unhide HN; omega)).mono ?_
  rintro e w8 ⟨rfl, k, rfl⟩
  have B8 := hide (below_drewN (unhide B7) k)
  clear B7
  go_wp2
  go_ret
  exact ⟨rfl, unhide B8⟩
end Go.Proofs.Ytafjodaeckiedaa
