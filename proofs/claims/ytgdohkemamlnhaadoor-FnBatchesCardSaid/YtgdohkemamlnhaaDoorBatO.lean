/- Right batches, as the specification and the program find them. -/
import Derived.Test.YtgdohkemamlnhaaDoorBat
import Derived.Test.YtgdohkemamlnhaaDoorOkI
namespace Go.Proofs.YtgdohkemamlnhaaDoor
open Go.RowKit
set_option maxHeartbeats 4000000
set_option maxRecDepth 20000
/-- the length of the first one -/
def sz0 (ts : List ByteArray) : Nat := (ts.getD 0 noS).size
def okB (r l : Int) (ts : List ByteArray) : Bool := (decide (0 ≤ r) && decide (r ≤ 1000000)) && (decide (0 ≤ l) && decide (l ≤ 255)) && decide (ts.length ≤ 64) && ts.all (fun t => decide (t.size ≤ 400) && decide (t.size = sz0 ts))
theorem all_getD {ts : List ByteArray} {P : ByteArray → Bool} (h : ∀ i, i < ts.length → P (ts.getD i noS) = true) : ts.all P = true := by
  rw [List.all_eq_true]
  intro t ht
  obtain ⟨i, hi, rfl⟩ := List.getElem_of_mem ht
  have := h i hi
  rwa [List.getD_eq_getElem?_getD, List.getElem?_eq_getElem hi] at this
theorem not_all_getD {ts : List ByteArray} {P : ByteArray → Bool} {i : Nat} (hi : i < ts.length) (h : P (ts.getD i noS) = false) : ts.all P = false := by
  rw [List.all_eq_false]
  refine ⟨ts.getD i noS, ?_, by rw [h]; decide⟩
  rw [List.getD_eq_getElem?_getD, List.getElem?_eq_getElem hi]
  exact List.getElem_mem _
theorem lb28 (r l : Int) (v : Value) (ts : List ByteArray) (w : World) (hv : strsV w v ts) (hs : ∀ t ∈ ts, t.size ≤ maxLen) (hl : ts.length ≤ 2097152) :
    Calls Tryd.prog 31 #[btV r l v] w fun e w' => e = .returned (.bool (okB r l ts)) ∧ Below w.heap.size w w' := by
  have B0 : Below w.heap.size w (w.alloc (.cells #[.int .i64 r, .int .i64 l, v] 33)) := bl_al (Below.refl _ _)
  have HV := hide (hv.below B0)
  have HB0 := hide B0
  have HBC := hide (bc_new w r l v 33)
  have c1 := hide (in19 r 0 1000000)
  have c2 := hide (in19 l 0 255)
  have HS := hide hs
  unfold okB
  generalize (decide (0 ≤ r) && decide (r ≤ 1000000)) = b1 at *
  generalize (decide (0 ≤ l) && decide (l ≤ 255)) = b2 at *
  obtain ⟨A, cap, rfl, _⟩ := hv
  clear B0 hs
  have n0 : (0 : Int) ≤ (ts.length : Int) := by omega
  have n1 : (ts.length : Int) ≤ 2097152 := by omega
  obtain ⟨_, d0, d1, d2⟩ := unhide HBC
  cases b1
  · go_enter Tryd.func31, Tryd.ntmps31
    go_wp2_with fail
    refine (unhide c1 _).mono ?_
    rintro e w1 ⟨rfl, rfl⟩
    go_wp2
    go_ret
    exact ⟨rfl, unhide HB0⟩
  · cases b2
    · go_enter Tryd.func31, Tryd.ntmps31
      go_wp2_with fail
      refine (unhide c1 _).mono ?_
      rintro e w1 ⟨rfl, rfl⟩
      go_wp2_with fail
      refine (unhide c2 _).mono ?_
      rintro e w1 ⟨rfl, rfl⟩
      go_wp2
      go_ret
      exact ⟨rfl, unhide HB0⟩
    · by_cases h64 : 64 < ts.length
      · have q : (64 : Int) < (ts.length : Int) := by omega
        rw [show decide (ts.length ≤ 64) = false by simp; omega]
        clear h64
        go_enter Tryd.func31, Tryd.ntmps31
        go_wp2_with fail
        refine (unhide c1 _).mono ?_
        rintro e w1 ⟨rfl, rfl⟩
        go_wp2_with fail
        refine (unhide c2 _).mono ?_
        rintro e w1 ⟨rfl, rfl⟩
        go_wp2
        go_ret
        exact ⟨rfl, unhide HB0⟩
      · have q : (ts.length : Int) ≤ 64 := by omega
        rw [show decide (ts.length ≤ 64) = true by simp; omega]
        clear h64
        go_enter Tryd.func31, Tryd.ntmps31
        go_wp2_with fail
        refine (unhide c1 _).mono ?_
        rintro e w1 ⟨rfl, rfl⟩
        go_wp2_with fail
        refine (unhide c2 _).mono ?_
        rintro e w1 ⟨rfl, rfl⟩
        go_wp2
        generalize w.alloc (.cells #[.int .i64 r, .int .i64 l, .slice A ts.length cap] 33) = w0 at *
        go_loopw [3] (fun i wr => ∃ j k : Nat, j ≤ ts.length ∧ i = .int .i64 j ∧ (∀ i, i < j → (decide ((ts.getD i noS).size ≤ 400) && decide ((ts.getD i noS).size = sz0 ts)) = true) ∧ wr = w0.drewN k) (fun i _ => ts.length - (intOf i).toNat)
        case atStart => exact ⟨0, 0, by omega, rfl, fun _ h => absurd h (Nat.not_lt_zero _), rfl⟩
        case round =>
          obtain ⟨j, k, hj, rfl, hgood, rfl⟩ := hrel
          have HGD := hide hgood
          clear hgood
          have e2 : ∀ k, (w0.drewN k).cell? ⟨w.heap.size, 2, none⟩ = some (.slice A ts.length cap) := fun k => d2
          by_cases hlt : j < ts.length
          · obtain ⟨A', cap', ev, hc⟩ := unhide HV
            simp only [Value.slice.injEq] at ev
            obtain ⟨rfl, _, rfl⟩ := ev
            obtain ⟨b, off, hA, hbl, hcell⟩ := hc (by omega)
            subst hA
            have q1 : (j : Int) < (ts.length : Int) := by omega
            have q0 : (0 : Int) ≤ (j : Int) := by omega
            have q3 : (0 : Int) < (ts.length : Int) := by omega
            have p1 : ∀ k, (w0.drewN k).cell? ⟨b, off + j, none⟩ = some (.string (ts.getD j noS)) := fun k => hcell j hlt
            have p2 : ∀ k, (w0.drewN k).cell? ⟨b, off, none⟩ = some (.string (ts.getD 0 noS)) := fun k => hcell 0 (by omega)
            have HJ := hide hlt
            have HT := hide (show sz0 ts = (ts.getD 0 noS).size from rfl)
            have HE := hide (show ∀ t, ts.getD j noS = t → (decide (t.size ≤ 400) && decide (t.size = sz0 ts)) = false → ts.all (fun t => decide (t.size ≤ 400) && decide (t.size = sz0 ts)) = false from fun t ht h => not_all_getD hlt (by rw [ht]; exact h))
            have HF := hide (show ∀ t, ts.getD j noS = t → (decide (t.size ≤ 400) && decide (t.size = sz0 ts)) = true → ∀ i, i < j + 1 → (decide ((ts.getD i noS).size ≤ 400) && decide ((ts.getD i noS).size = sz0 ts)) = true from fun t ht h i hi => by
              rcases Nat.lt_succ_iff_lt_or_eq.1 hi with h1 | rfl
              · exact unhide HGD i h1
              · rw [ht]; exact h)
            have sz : (ts.getD j noS).size ≤ maxLen := unhide HS _ (by rw [List.getD_eq_getElem?_getD, List.getElem?_eq_getElem hlt]; exact List.getElem_mem _)
            unfold maxLen at sz
            clear hcell hc hlt hj hbl
            generalize ht0 : ts.getD 0 noS = t0 at *
            generalize htj : ts.getD j noS = t at *
            have HT0 := hide ht0
            have HTJ := hide htj
            clear ht0 htj
            by_cases h4 : t.size ≤ 400
            · by_cases h5 : t.size = t0.size
              · have u1 : (t.size : Int) ≤ 400 := by omega
                have u2 : (t.size : Int) = (t0.size : Int) := by omega
                have u3 : decide ((400 : Int) < (t0.size : Int)) = false := by simp; omega
                have u4 : decide ((400 : Int) < (t.size : Int)) = false := by simp; omega
                have HG := hide (unhide HF t rfl (by rw [unhide HT, Bool.and_eq_true, decide_eq_true_eq, decide_eq_true_eq]; exact ⟨h4, h5⟩))
                clear h4 h5 u1 HE HF
                go_wp2
                go_quiet (fail)
                rw [show (w0.drewN k).drewN nq = w0.drewN (k + nq) by simp [World.drewN, Nat.add_assoc]]
                go_wp2
                go_roundw
                case rel => exact ⟨j + 1, _, unhide HJ, by go_num, unhide HG, rfl⟩
                case measure => have := unhide HJ; simp [intOf]; omega
              · have u2 : ¬ ((t.size : Int) = (t0.size : Int)) := by omega
                have u4 : decide ((400 : Int) < (t.size : Int)) = false := by simp; omega
                have HG := hide (unhide HE t rfl (by rw [unhide HT]; simp [h5]))
                clear h4 h5 HE HF
                go_wp2
                go_quiet (fail)
                rw [show (w0.drewN k).drewN nq = w0.drewN (k + nq) by simp [World.drewN, Nat.add_assoc]]
                go_wp2
                go_ret
                exact ⟨by rw [unhide HG]; rfl, below_drewN (unhide HB0) _⟩
            · have u4 : decide ((400 : Int) < (t.size : Int)) = true := by simp; omega
              have HG := hide (unhide HE t rfl (by simp [h4]))
              clear h4 HE HF
              go_wp2
              go_quiet (fail)
              rw [show (w0.drewN k).drewN nq = w0.drewN (k + nq) by simp [World.drewN, Nat.add_assoc]]
              go_wp2
              go_ret
              exact ⟨by rw [unhide HG]; rfl, below_drewN (unhide HB0) _⟩
          · obtain rfl : j = ts.length := by omega
            have HG := hide (all_getD (P := fun t => decide (t.size ≤ 400) && decide (t.size = sz0 ts)) (unhide HGD))
            clear hlt HGD
            go_wp2
            go_ret
            exact ⟨by rw [unhide HG]; rfl, below_drewN (unhide HB0) _⟩
theorem lok (n : Int) (w : World) : Calls Tryd.prog 62 #[.int .i64 n] w fun e w' => e = .returned (.bool (decide (0 ≤ n) && decide (n ≤ 255))) ∧ w' = w := by
  go_enter Tryd.func62, Tryd.ntmps62
  go_wp2
  all_goals
    go_ret
    exact ⟨ret_bool (by rw [Bool.eq_iff_iff]; simp; try omega), rfl⟩
theorem so32 (v : Value) (ts : List ByteArray) (w : World) (hv : strsV w v ts) :
    Calls Tryd.prog 47 #[v] w fun e w' => e = .returned (.int .i64 (sz0 ts : Int)) ∧ w' = w := by
  obtain ⟨A, cap, rfl, hc⟩ := hv
  by_cases h0 : ts.length = 0
  · have hz : sz0 ts = 0 := by unfold sz0; rw [List.getD_eq_getElem?_getD, List.getElem?_eq_none (by omega)]; rfl
    have e : (ts.length : Int) = 0 := by omega
    rw [hz]
    clear hc h0 hz
    go_enter Tryd.func47, Tryd.ntmps47
    go_wp2
    go_ret
    exact ⟨rfl, rfl⟩
  · obtain ⟨b, off, rfl, hl, hcell⟩ := hc (by omega)
    have p0 : w.cell? ⟨b, off, none⟩ = some (.string (ts.getD 0 noS)) := hcell 0 (by omega)
    have q0 : ¬ ((ts.length : Int) = 0) := by omega
    have q1 : (0 : Int) < (ts.length : Int) := by omega
    have e0 : sz0 ts = (ts.getD 0 noS).size := rfl
    rw [e0]
    generalize ts.getD 0 noS = t at *
    clear hcell hc h0 e0
    go_enter Tryd.func47, Tryd.ntmps47
    go_wp2
    go_ret
    exact ⟨rfl, rfl⟩
theorem bo31 (r l : Int) (v : Value) (ts : List ByteArray) (w : World) (hv : strsV w v ts) (hs : ∀ t ∈ ts, t.size ≤ maxLen) (hl : ts.length ≤ 2097152) :
    Calls Tryd.prog 46 #[btV r l v] w fun e w' => e = .returned (.bool (okB r l ts)) ∧ Below w.heap.size w w' := by
  have B0 : Below w.heap.size w (w.alloc (.cells #[.int .i64 r, .int .i64 l, v] 33)) := bl_al (Below.refl _ _)
  have HV := hide (hv.below B0)
  have HB0 := hide B0
  have HBC := hide (bc_new w r l v 33)
  have c1 := hide (rok r)
  have c2 := hide (lok l)
  have c3 := hide (so32 v ts _ (unhide HV))
  have HS := hide hs
  have hz : sz0 ts ≤ maxLen := by
    unfold sz0
    by_cases h0 : 0 < ts.length
    · exact hs _ (by rw [List.getD_eq_getElem?_getD, List.getElem?_eq_getElem h0]; exact List.getElem_mem _)
    · rw [List.getD_eq_getElem?_getD, List.getElem?_eq_none (by omega)]; exact Nat.zero_le _
  unfold maxLen at hz
  have z0 : (0 : Int) ≤ (sz0 ts : Int) := by omega
  have z1 : (sz0 ts : Int) ≤ 9223372036854775807 := by omega
  unfold okB
  generalize (decide (0 ≤ r) && decide (r ≤ 1000000)) = b1 at *
  generalize (decide (0 ≤ l) && decide (l ≤ 255)) = b2 at *
  obtain ⟨A, cap, rfl, _⟩ := hv
  clear B0 hs hz
  have n0 : (0 : Int) ≤ (ts.length : Int) := by omega
  have n1 : (ts.length : Int) ≤ 2097152 := by omega
  obtain ⟨_, d0, d1, d2⟩ := unhide HBC
  generalize hZ : sz0 ts = Z at *
  have HZZ := hide hZ
  clear hZ
  cases b1
  · go_enter Tryd.func46, Tryd.ntmps46
    go_wp2_with fail
    refine (unhide c1 _).mono ?_
    rintro e w1 ⟨rfl, rfl⟩
    go_wp2
    go_ret
    exact ⟨rfl, unhide HB0⟩
  · cases b2
    · go_enter Tryd.func46, Tryd.ntmps46
      go_wp2_with fail
      refine (unhide c1 _).mono ?_
      rintro e w1 ⟨rfl, rfl⟩
      go_wp2_with fail
      refine (unhide c2 _).mono ?_
      rintro e w1 ⟨rfl, rfl⟩
      go_wp2
      go_ret
      exact ⟨rfl, unhide HB0⟩
    · by_cases h64 : 64 < ts.length
      · have q : (64 : Int) < (ts.length : Int) := by omega
        rw [show decide (ts.length ≤ 64) = false by simp; omega]
        clear h64
        go_enter Tryd.func46, Tryd.ntmps46
        go_wp2_with fail
        refine (unhide c1 _).mono ?_
        rintro e w1 ⟨rfl, rfl⟩
        go_wp2_with fail
        refine (unhide c2 _).mono ?_
        rintro e w1 ⟨rfl, rfl⟩
        go_wp2
        go_ret
        exact ⟨rfl, unhide HB0⟩
      · have q : (ts.length : Int) ≤ 64 := by omega
        rw [show decide (ts.length ≤ 64) = true by simp; omega]
        clear h64
        go_enter Tryd.func46, Tryd.ntmps46
        go_wp2_with fail
        refine (unhide c1 _).mono ?_
        rintro e w1 ⟨rfl, rfl⟩
        go_wp2_with fail
        refine (unhide c2 _).mono ?_
        rintro e w1 ⟨rfl, rfl⟩
        go_wp2_with fail
        refine (unhide c3).mono ?_
        rintro e w1 ⟨rfl, rfl⟩
        go_wp2
        generalize w.alloc (.cells #[.int .i64 r, .int .i64 l, .slice A ts.length cap] 33) = w0 at *
        go_loopw [28] (fun i wr => ∃ j : Nat, j ≤ ts.length ∧ i = .int .i64 j ∧ (∀ i, i < j → (ts.getD i noS).size = Z) ∧ wr = w0) (fun i _ => ts.length - (intOf i).toNat)
        case atStart => exact ⟨0, by omega, rfl, fun _ h => absurd h (Nat.not_lt_zero _), rfl⟩
        case round =>
          obtain ⟨j, hj, rfl, hgood, rfl⟩ := hrel
          have HGD := hide hgood
          clear hgood
          by_cases hlt : j < ts.length
          · obtain ⟨A', cap', ev, hc⟩ := unhide HV
            simp only [Value.slice.injEq] at ev
            obtain ⟨rfl, _, rfl⟩ := ev
            obtain ⟨b, off, hA, hbl, hcell⟩ := hc (by omega)
            subst hA
            have q1 : (j : Int) < (ts.length : Int) := by omega
            have q0 : (0 : Int) ≤ (j : Int) := by omega
            have p1 := hcell j hlt
            have HJ := hide hlt
            by_cases h5 : (ts.getD j noS).size = Z
            · have u2 : ((ts.getD j noS).size : Int) = (Z : Int) := by omega
              have HF := hide (show ∀ i, i < j + 1 → (ts.getD i noS).size = Z from fun i hi => by
                rcases Nat.lt_succ_iff_lt_or_eq.1 hi with h1 | rfl
                · exact unhide HGD i h1
                · exact h5)
              clear hcell hc hlt hj hbl h5 HGD
              generalize ts.getD j noS = t at *
              go_wp2
              go_roundw
              case rel => exact ⟨j + 1, unhide HJ, by go_num, unhide HF, by first | rfl | trivial⟩
              case measure => have := unhide HJ; simp [intOf]; omega
            · have u2 : ¬ (((ts.getD j noS).size : Int) = (Z : Int)) := by omega
              have HE := hide (show ts.all (fun t => decide (t.size ≤ 400) && decide (t.size = Z)) = false from not_all_getD hlt (by show (decide ((ts.getD j noS).size ≤ 400) && decide ((ts.getD j noS).size = Z)) = false; rw [decide_eq_false h5, Bool.and_false]))
              clear hcell hc hlt hj hbl h5 HGD
              generalize ts.getD j noS = t at *
              go_wp2
              go_ret
              exact ⟨by rw [unhide HE]; rfl, unhide HB0⟩
          · obtain rfl : j = ts.length := by omega
            have HE : Hid (ts.all (fun t => decide (t.size ≤ 400) && decide (t.size = Z)) = decide (Z ≤ 400)) := hide (by
              by_cases h4 : Z ≤ 400
              · rw [decide_eq_true h4]
                exact all_getD fun i hi => by
                  show (decide ((ts.getD i noS).size ≤ 400) && decide ((ts.getD i noS).size = Z)) = true
                  rw [unhide HGD i hi]; simp [h4]
              · rw [decide_eq_false h4]
                by_cases h0 : 0 < ts.length
                · exact not_all_getD h0 (by
                    show (decide ((ts.getD 0 noS).size ≤ 400) && decide ((ts.getD 0 noS).size = Z)) = false
                    rw [unhide HGD 0 h0]; simp [h4])
                · exfalso
                  have : Z = 0 := by rw [← unhide HZZ]; unfold sz0; rw [List.getD_eq_getElem?_getD, List.getElem?_eq_none (by omega)]; rfl
                  omega)
            clear hlt HGD
            by_cases h4 : Z ≤ 400
            · have u1 : (Z : Int) ≤ 400 := by omega
              have HE' := hide ((unhide HE).trans (decide_eq_true h4))
              clear h4 HE
              go_wp2
              go_ret
              exact ⟨by rw [unhide HE']; simp, unhide HB0⟩
            · have u1 : (400 : Int) < (Z : Int) := by omega
              have HE' := hide ((unhide HE).trans (decide_eq_false h4))
              clear h4 HE
              go_wp2
              go_ret
              exact ⟨by rw [unhide HE']; simp [u1], unhide HB0⟩
end Go.Proofs.YtgdohkemamlnhaaDoor
