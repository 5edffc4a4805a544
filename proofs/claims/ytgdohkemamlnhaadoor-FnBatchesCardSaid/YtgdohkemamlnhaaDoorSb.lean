/- The specification's ReadBatch. -/
import Derived.Test.YtgdohkemamlnhaaDoorSbp
namespace Go.Proofs.YtgdohkemamlnhaaDoor
open Go.RowKit
set_option maxHeartbeats 4000000
set_option maxRecDepth 20000
theorem rb_out (n cap : Nat) (A : Option Addr) (C : Int) (h : 65536 < n ∧ C = 2 ∨ n < 8 ∧ C = 3) (w : World) :
    Calls Tryd.prog 12 #[.slice A n cap] w fun e w' => ∃ u, e = .returned (.tuple #[btV 0 0 u, .int .i64 C]) ∧ ownS w.heap.size w'.heap.size w' u [] ∧ Below w.heap.size w w' := by
  have N1 := hide (heap_at w (.cells #[.int .i64 0, .int .i64 0, .slice none 0 0] 33) w.heap.size rfl)
  have B1 := hide (show Below w.heap.size w (w.alloc (.cells #[.int .i64 0, .int .i64 0, .slice none 0 0] 33)) from bl_al (Below.refl _ _))
  rcases h with ⟨h, rfl⟩ | ⟨h, rfl⟩
  · have q : (65536 : Int) < (n : Int) := by omega
    clear h
    go_enter Tryd.func12, Tryd.ntmps12
    go_wp2
    refine bodyPost_ret (v := .tuple #[btV 0 0 (.slice none 0 0), .int .i64 2]) (results_tmp_row rfl _ _ w.heap.size 33 _ (0, 0) _ _ rfl rfl (unhide N1) Tryd.underlying33 rfl (by kernel_rfl)) rfl ⟨_, rfl, .inl ⟨rfl, rfl⟩, ?_⟩
    exact unhide B1
  · have q : (n : Int) < 8 := by omega
    have q' : (n : Int) ≤ 65536 := by omega
    clear h
    go_enter Tryd.func12, Tryd.ntmps12
    go_wp2
    refine bodyPost_ret (v := .tuple #[btV 0 0 (.slice none 0 0), .int .i64 3]) (results_tmp_row rfl _ _ w.heap.size 33 _ (0, 0) _ _ rfl rfl (unhide N1) Tryd.underlying33 rfl (by kernel_rfl)) rfl ⟨_, rfl, .inl ⟨rfl, rfl⟩, ?_⟩
    exact unhide B1
theorem cell_ltW {W : World} {b i : Nat} {v : Value} (h : W.cell? ⟨b, i, none⟩ = some v) : b < W.heap.size := by
  unfold World.cell? at h
  rw [show (⟨b, i, none⟩ : Addr).block = b from rfl] at h
  rcases Nat.lt_or_ge b W.heap.size with hl | hl
  · exact hl
  · rw [Array.getElem?_eq_none hl] at h; cases h
theorem spB_bad {xs : List Int} (h6 : xs.length ≤ 65536) (h : ¬ sF xs) : spB xs = ((0, 0, []), 3) := by
  unfold spB
  rw [if_neg (by omega), if_neg (fun hh => h hh.2.1)]
theorem rb_main (A : Option Addr) (cap : Nat) (xs : List Int) (w : World) (hv : bytesC w (.slice A xs.length cap) xs) (h8 : 8 ≤ xs.length) (h6 : xs.length ≤ 65536) :
    Calls Tryd.prog 12 #[.slice A xs.length cap] w fun e w' => ∃ u, e = .returned (.tuple #[btV (spB xs).1.1 (spB xs).1.2.1 u, .int .i64 (spB xs).2]) ∧ ownS w.heap.size w'.heap.size w' u (spB xs).1.2.2 ∧ Below w.heap.size w w' := by
  have HV := hide hv
  generalize hsp : spB xs = SPB at *
  obtain ⟨⟨r', l', ts'⟩, C'⟩ := SPB
  have HSP := hide hsp
  clear hsp
  dsimp only
  obtain ⟨A0, cap0, e, hcap, hB, hr⟩ := hv
  simp only [Value.slice.injEq, true_and] at e
  obtain ⟨rfl, rfl⟩ := e
  obtain ⟨g, off, rfl, hrow⟩ : ∃ g off, A = some ⟨g, off, none⟩ ∧ rowAt w g off xs := by
    rcases hr with ⟨_, rfl⟩ | ⟨b, off, h, hr⟩
    · simp at h8
    · exact ⟨b, off, h, hr⟩
  have B0 : Below w.heap.size w (w.alloc (.cells #[.int .i64 0, .int .i64 0, .slice none 0 0] 33)) := bl_al (Below.refl _ _)
  have N0 := hide (heap_at w (.cells #[.int .i64 0, .int .i64 0, .slice none 0 0] 33) w.heap.size rfl)
  have sl1 : ∀ W, (Instr.slice 22 (.slice (some ⟨g, off, none⟩) xs.length cap) none (some (.int .i64 4)) none).run Tryd.prog W = .ok (.slice (some ⟨g, off, none⟩) 4 cap) W := fun W => slice_hi (some ⟨g, off, none⟩) xs.length cap 4 hcap (by omega) W
  have sl2 : ∀ W, (Instr.slice 22 (.slice (some ⟨g, off, none⟩) xs.length cap) (some (.int .i64 6)) (some (.int .i64 8)) none).run Tryd.prog W = .ok (.slice (some ⟨g, off + 6, none⟩) 2 (cap - 6)) W := fun W => slice_mid g off xs.length cap 6 8 (by omega) (by omega) hcap (by omega) W
  have b6 := ofL_bd (cut xs 6 2) (cut_isB hB 6 2) 2 (by omega) (by rw [cut_len xs 6 2 (by omega)]; omega)
  rw [show (cut xs 6 2).take 2 = cut xs 6 2 by rw [List.take_of_length_le (by rw [cut_len xs 6 2 (by omega)]; omega)]] at b6
  have e5 : xs.getD 5 0 = (sN xs : Int) := by have := hB.at 5; unfold sN; omega
  have eZ : ofL (cut xs 6 2) = (sZ xs : Int) := by unfold sZ; omega
  have o1 : Hid (∀ W', Below w.heap.size w W' → Calls Tryd.prog 30 #[.slice (some ⟨g, off, none⟩) 4 cap] W' fun e w' => e = .returned (.int .i64 (sR xs)) ∧ w' = W') := hide fun W' hb => of25 _ (cut xs 0 4) (by rw [cut_len xs 0 4 (by omega)]; omega) W' (((hrow.below hb).cut 0 4).bytes (cut_isB hB 0 4) 4 cap (cut_len xs 0 4 (by omega)).symm)
  have o2 : Hid (∀ W', Below w.heap.size w W' → Calls Tryd.prog 30 #[.slice (some ⟨g, off + 6, none⟩) 2 (cap - 6)] W' fun e w' => e = .returned (.int .i64 (sZ xs : Int)) ∧ w' = W') := hide fun W' hb => by
    rw [← eZ]
    exact of25 _ (cut xs 6 2) (by rw [cut_len xs 6 2 (by omega)]; omega) W' (((hrow.below hb).cut 6 2).bytes (cut_isB hB 6 2) 2 (cap - 6) (cut_len xs 6 2 (by omega)).symm)
  have cells : Hid (∀ W', Below w.heap.size w W' → W'.cell? ⟨g, off + 4, none⟩ = some (.int .u8 (sL xs)) ∧ W'.cell? ⟨g, off + 5, none⟩ = some (.int .u8 (sN xs : Int))) := hide fun W' hb => by
    refine ⟨(hrow.below hb).cell 4 (by omega), ?_⟩
    rw [(hrow.below hb).cell 5 (by omega), e5]
  have l4 : 0 ≤ sL xs ∧ sL xs < 256 := hB.at 4
  have wl : IntKind.i64.wrap (sL xs) = sL xs := by rw [IntKind.wrap_i64]; omega
  have l5 : (sN xs : Int) < 256 := by have := hB.at 5; omega
  have z6 : (sZ xs : Int) < 65536 := by have : (256 : Int) ^ 2 = 65536 := by decide
                                        omega
  have n0 : (0 : Int) ≤ (sN xs : Int) := by omega
  have z0 : (0 : Int) ≤ (sZ xs : Int) := by omega
  have q8 : (8 : Int) ≤ (xs.length : Int) := by omega
  have q6 : (xs.length : Int) ≤ 65536 := by omega
  have q4 : (4 : Int) < (xs.length : Int) := by omega
  have q5 : (5 : Int) < (xs.length : Int) := by omega
  have BA := hide B0
  have LA := hide (show w.heap.size < (w.alloc (.cells #[.int .i64 0, .int .i64 0, .slice none 0 0] 33)).heap.size by simp)
  clear e5 eZ b6 hB hrow hr hcap B0
  obtain ⟨l40, l41⟩ := l4
  generalize hsR : sR xs = r at *
  generalize hsL : sL xs = l at *
  generalize hsN : sN xs = N at *
  generalize hsZ : sZ xs = Zs at *
  have HsN := hide hsN
  have HsZ := hide hsZ
  have HsR := hide hsR
  have HsL := hide hsL
  have H8 := hide h8
  have H6 := hide h6
  have HZ6 := hide (show Zs ≤ 65535 by omega)
  clear hsR hsL h8 h6 hsN hsZ z6
  go_enter Tryd.func12, Tryd.ntmps12
  go_wp2
  generalize w.alloc (.cells #[.int .i64 0, .int .i64 0, .slice none 0 0] 33) = wA at *
  rename_i Q1 hh1 hh2 K1 hK1
  suffices main : ∀ (gi p : Nat) (WB : World), WB.heap[p]? = some (.cells #[.int .i64 r, .int .i64 l, .slice (some ⟨gi, 0, none⟩) 0 0] 33 (0, 0)) → Below wA.heap.size wA WB → WB.ownsRow wA.heap.size 9 1 (.slice (some ⟨gi, 0, none⟩) 0 0) 0 (([] : List ByteArray).map Value.string) → wA.heap.size ≤ p → gi ≠ p → Exit.then K1 Q1 .normal { tmps := #[Value.slice (some { block := g, off := off }) xs.length cap, undef, Value.pointer (some { block := w.heap.size, off := 0 }), Value.int IntKind.i64 0, Value.pointer (some { block := p, off := 0 }), undef, undef, undef, Value.slice (some { block := g, off := off }) xs.length cap, Value.int IntKind.i64 (xs.length : Int), Value.bool (decide ((65536 : Int) < (xs.length : Int))), undef, Value.slice (some { block := g, off := off }) xs.length cap, Value.int IntKind.i64 (xs.length : Int), Value.bool (decide ((xs.length : Int) < 8)), undef, Value.slice (some { block := g, off := off }) xs.length cap, Value.slice (some { block := g, off := off }) 4 cap, Value.int IntKind.i64 r, Value.slice (some { block := g, off := off }) xs.length cap, Value.pointer (some { block := g, off := off + 4 }), Value.int IntKind.u8 l, Value.int IntKind.i64 l, Value.slice (some { block := gi, off := 0 }) 0 0, Value.agg #[Value.int IntKind.i64 r, Value.int IntKind.i64 l, Value.slice (some { block := gi, off := 0 }) 0 0], undef, undef, undef, undef, undef, undef, undef, undef, undef, undef, undef, undef, undef, undef, undef, undef, undef, undef, undef, undef, undef, undef, undef, undef, undef, undef, undef, undef, undef, undef, undef, undef, undef, undef, undef, undef, undef, undef, undef, undef, undef, undef, undef, undef, undef, undef, undef, undef, undef, undef, undef, undef, undef, undef, undef, undef, undef, undef], defers := [] } WB by
    refine wp_region_held (S := fun W' => Below wA.heap.size wA W') (by kernel_rfl) ?_
    have hS0 : Below wA.heap.size wA { wA with drawn := wA.drawn + 1 } := below_drewN (Below.refl _ _) 1
    refine wpAnyH_take (i := 0) (oi := { dst := some 16, op := Op.move (Operand.tmp 0), type := 22, pos := "l05_wire.go:100", after := #[], guard := none }) (v := ?_) rfl (by kernel_rfl) (by kernel_rfl) (by kernel_rfl) (fun _ _ _ h => h) (Or.inl ⟨by rfl, ?_⟩) hS0 ?_
    rotate_left
    · intro W hSw
      obtain ⟨cl4, cl5⟩ := unhide cells W (bl_st hSw (unhide BA))
      go_simp
      try with_reducible rfl
    simp only [Act.put, List.setIfInBounds_toArray, List.set_cons_zero, List.set_cons_succ]
    refine wpAnyH_take (i := 1) (oi := { dst := some 17, op := Op.slice 22 (Operand.tmp 16) none (some (Operand.const (Value.int IntKind.i64 4))) none, type := 22, pos := "l05_wire.go:100", after := #[{ on := 0, ground := Ground.data }], guard := none }) (v := ?_) rfl (by kernel_rfl) (by kernel_rfl) (by kernel_rfl) (fun _ _ _ h => h) (Or.inl ⟨by rfl, ?_⟩) hS0 ?_
    rotate_left
    · intro W hSw
      obtain ⟨cl4, cl5⟩ := unhide cells W (bl_st hSw (unhide BA))
      go_simp
      try with_reducible rfl
    simp only [Act.put, List.setIfInBounds_toArray, List.set_cons_zero, List.set_cons_succ]
    refine wpAnyH_take (i := 3) (oi := { dst := some 19, op := Op.move (Operand.tmp 0), type := 22, pos := "l05_wire.go:100", after := #[], guard := none }) (v := ?_) rfl (by kernel_rfl) (by kernel_rfl) (by kernel_rfl) (fun _ _ _ h => h) (Or.inl ⟨by rfl, ?_⟩) hS0 ?_
    rotate_left
    · intro W hSw
      obtain ⟨cl4, cl5⟩ := unhide cells W (bl_st hSw (unhide BA))
      go_simp
      try with_reducible rfl
    simp only [Act.put, List.setIfInBounds_toArray, List.set_cons_zero, List.set_cons_succ]
    refine wpAnyH_take (i := 4) (oi := { dst := some 20, op := Op.indexAddr 22 (Operand.tmp 19) (Operand.const (Value.int IntKind.i64 4)), type := 0, pos := "l05_wire.go:100", after := #[{ on := 3, ground := Ground.data }], guard := none }) (v := ?_) rfl (by kernel_rfl) (by kernel_rfl) (by kernel_rfl) (fun _ _ _ h => h) (Or.inl ⟨by rfl, ?_⟩) hS0 ?_
    rotate_left
    · intro W hSw
      obtain ⟨cl4, cl5⟩ := unhide cells W (bl_st hSw (unhide BA))
      go_simp
      try with_reducible rfl
    simp only [Act.put, List.setIfInBounds_toArray, List.set_cons_zero, List.set_cons_succ]
    refine wpAnyH_take (i := 5) (oi := { dst := some 21, op := Op.load 5 (Operand.tmp 20), type := 5, pos := "l05_wire.go:100", after := #[{ on := 4, ground := Ground.data }], guard := none }) (v := ?_) rfl (by kernel_rfl) (by kernel_rfl) (by kernel_rfl) (fun _ _ _ h => h) (Or.inl ⟨by rfl, ?_⟩) hS0 ?_
    rotate_left
    · intro W hSw
      obtain ⟨cl4, cl5⟩ := unhide cells W (bl_st hSw (unhide BA))
      go_simp
      try with_reducible rfl
    simp only [Act.put, List.setIfInBounds_toArray, List.set_cons_zero, List.set_cons_succ]
    refine wpAnyH_take (i := 6) (oi := { dst := some 22, op := Op.convert 5 3 (Operand.tmp 21), type := 3, pos := "l05_wire.go:100", after := #[{ on := 5, ground := Ground.data }], guard := none }) (v := ?_) rfl (by kernel_rfl) (by kernel_rfl) (by kernel_rfl) (fun _ _ _ h => h) (Or.inl ⟨by rfl, ?_⟩) hS0 ?_
    rotate_left
    · intro W hSw
      obtain ⟨cl4, cl5⟩ := unhide cells W (bl_st hSw (unhide BA))
      go_simp
      try with_reducible rfl
    simp only [Act.put, List.setIfInBounds_toArray, List.set_cons_zero, List.set_cons_succ]
    have OWIX : (((World.drewN wA 1).alloc (.cells #[] 9)).alloc (.cells #[.int .i64 0, .int .i64 0, .slice none 0 0] 33)).ownsRow wA.heap.size 9 1 (.slice (some ⟨wA.heap.size, 0, none⟩) 0 0) 0 (([] : List ByteArray).map Value.string) := (World.ownsRow_made (World.drewN wA 1) (e := 9) (size := 1) #[] 0 (Nat.le_refl _) (Nat.zero_le _) rfl).alloc _
    have OWXI : (((World.drewN wA 1).alloc (.cells #[.int .i64 0, .int .i64 0, .slice none 0 0] 33)).alloc (.cells #[] 9)).ownsRow wA.heap.size 9 1 (.slice (some ⟨(wA.heap.size + 1), 0, none⟩) 0 0) 0 (([] : List ByteArray).map Value.string) := by
      have h := World.ownsRow_made ((World.drewN wA 1).alloc (.cells #[.int .i64 0, .int .i64 0, .slice none 0 0] 33)) (e := 9) (size := 1) #[] 0 (Nat.le_refl _) (Nat.zero_le _) rfl
      rw [show ((World.drewN wA 1).alloc (.cells #[.int .i64 0, .int .i64 0, .slice none 0 0] 33)).heap.size = wA.heap.size + 1 by simp [World.drewN]] at h
      exact own_lower h (by omega)
    have NXIX : (((World.drewN wA 1).alloc (.cells #[] 9)).alloc (.cells #[.int .i64 0, .int .i64 0, .slice none 0 0] 33)).heap[(wA.heap.size + 1)]? = some (.cells #[.int .i64 0, .int .i64 0, .slice none 0 0] 33 (0, 0)) := heap_at _ _ _ (by simp [World.drewN])
    have NXXI : (((World.drewN wA 1).alloc (.cells #[.int .i64 0, .int .i64 0, .slice none 0 0] 33)).alloc (.cells #[] 9)).heap[wA.heap.size]? = some (.cells #[.int .i64 0, .int .i64 0, .slice none 0 0] 33 (0, 0)) := (Below.heap_alloc _ _ _ (by simp [World.drewN])).trans (heap_at _ _ _ rfl)
    refine wpAnyH_three (i := 2) (j := 7) (k := 9) (by kernel_rfl) ?_ ?_ ?_
    · refine wpOp_step (o := { dst := some 18, op := Op.call { callee := Callee.value (Operand.func 30), args := #[Operand.tmp 17], argTypes := #[22] }, type := 3, pos := "l05_wire.go:100", after := #[{ on := 1, ground := Ground.data }], guard := none }) rfl fun K' hK => step_enterW (by rfl) 30 #[.slice (some ⟨g, off, none⟩) 4 cap] (by go_simp) ((unhide o1 ({ wA with drawn := wA.drawn + 1 }) (bl_st hS0 (unhide BA))).mono ?_)
      rintro e wc ⟨rfl, rfl⟩
      skip
      refine ⟨_, rfl, hK _ _ ⟨hS0, ?_⟩⟩
      simp only [Act.put, List.setIfInBounds_toArray, List.set_cons_zero, List.set_cons_succ]
      refine wpAnyH_two (i := 7) (j := 9) (by kernel_rfl) ?_ ?_
      · refine wpOp_step (o := { dst := some 23, op := Op.buildSlice 31 0 #[], type := 31, pos := "l05_wire.go:100", after := #[], guard := none }) rfl fun K' hK => step_valueW (by rfl) (.slice (some ⟨wA.heap.size, 0, none⟩) 0 0) ((World.drewN wA 1).alloc (.cells #[] 9)) (by (go_simp; try rfl)) ?_
        refine hK _ _ ⟨(bl_al (o := .cells #[] 9) hS0), ?_⟩
        simp only [Act.put, List.setIfInBounds_toArray, List.set_cons_zero, List.set_cons_succ]
        refine wpAnyH_take (i := 8) (oi := { dst := some 24, op := Op.build 33 #[(0, Operand.tmp 18), (1, Operand.tmp 22), (2, Operand.tmp 23)], type := 33, pos := "l05_wire.go:100", after := #[{ on := 2, ground := Ground.data }, { on := 6, ground := Ground.data }, { on := 7, ground := Ground.data }], guard := none }) (v := ?_) rfl (by kernel_rfl) (by kernel_rfl) (by kernel_rfl) (fun _ _ _ h => h) (Or.inl ⟨by rfl, ?_⟩) (bl_al (o := .cells #[] 9) hS0) ?_
        rotate_left
        · intro W hSw
          obtain ⟨cl4, cl5⟩ := unhide cells W (bl_st hSw (unhide BA))
          go_simp
          try with_reducible rfl
        simp only [Act.put, List.setIfInBounds_toArray, List.set_cons_zero, List.set_cons_succ]
        refine wpAnyH_one (i := 9) (by kernel_rfl) ?_
        refine wpOp_step (o := { dst := some 4, op := Op.alloc 33, type := 0, pos := "l05_wire.go:100", after := #[], guard := none }) rfl fun K' hK => step_valueW (by rfl) (.pointer (some ⟨(wA.heap.size + 1), 0, none⟩)) (((World.drewN wA 1).alloc (.cells #[] 9)).alloc (.cells #[.int .i64 0, .int .i64 0, .slice none 0 0] 33)) (by (go_simp; try rfl)) ?_
        refine hK _ _ ⟨(bl_al (o := .cells #[.int .i64 0, .int .i64 0, .slice none 0 0] 33) (bl_al (o := .cells #[] 9) hS0)), ?_⟩
        simp only [Act.put, List.setIfInBounds_toArray, List.set_cons_zero, List.set_cons_succ]
        have nx : (((World.drewN wA 1).alloc (.cells #[] 9)).alloc (.cells #[.int .i64 0, .int .i64 0, .slice none 0 0] 33)).heap[(wA.heap.size + 1)]? = some (.cells #[.int .i64 0, .int .i64 0, .slice none 0 0] 33 (0, 0)) := NXIX
        have hb : Below wA.heap.size wA (((World.drewN wA 1).alloc (.cells #[] 9)).alloc (.cells #[.int .i64 0, .int .i64 0, .slice none 0 0] 33)) := (bl_al (o := .cells #[.int .i64 0, .int .i64 0, .slice none 0 0] 33) (bl_al (o := .cells #[] 9) hS0))
        have ow : (((World.drewN wA 1).alloc (.cells #[] 9)).alloc (.cells #[.int .i64 0, .int .i64 0, .slice none 0 0] 33)).ownsRow wA.heap.size 9 1 (.slice (some ⟨wA.heap.size, 0, none⟩) 0 0) 0 (([] : List ByteArray).map Value.string) := OWIX
        have hp : wA.heap.size ≤ (wA.heap.size + 1) := by omega
        have hne : wA.heap.size ≠ (wA.heap.size + 1) := by omega
        clear NXIX NXXI OWIX OWXI
        generalize (((World.drewN wA 1).alloc (.cells #[] 9)).alloc (.cells #[.int .i64 0, .int .i64 0, .slice none 0 0] 33)) = wB at *
        generalize wA.heap.size + 1 = p at *
        have px0 : wB.cell? ⟨p, 0, none⟩ = some (.int .i64 0) := row_cell nx
        have px1 : wB.cell? ⟨p, 1, none⟩ = some (.int .i64 0) := row_cell nx
        have px2 : wB.cell? ⟨p, 2, none⟩ = some (.slice none 0 0) := row_cell nx
        have fx0 : wB.frozen? ⟨p, 0, none⟩ = false := row_free nx
        have fx1 : wB.frozen? ⟨p, 1, none⟩ = false := row_free nx
        have fx2 : wB.frozen? ⟨p, 2, none⟩ = false := row_free nx
        refine wpAnyH_one (i := 10) (by kernel_rfl) ?_
        refine wpOp_step (o := { dst := none, op := Op.store 33 (Operand.tmp 4) (Operand.tmp 24), type := 0, pos := "l05_wire.go:100", after := #[{ on := 9, ground := Ground.data }, { on := 8, ground := Ground.data }, { on := 2, ground := Ground.chain }, { on := 0, ground := Ground.phase }, { on := 1, ground := Ground.phase }, { on := 2, ground := Ground.phase }, { on := 3, ground := Ground.phase }, { on := 4, ground := Ground.phase }, { on := 5, ground := Ground.phase }, { on := 6, ground := Ground.phase }, { on := 7, ground := Ground.phase }, { on := 8, ground := Ground.phase }, { on := 9, ground := Ground.phase }], guard := none }) rfl fun K' hK => step_skipW (by rfl) ((((wB.setCell ⟨p, 0, none⟩ (.int .i64 r)).setCell ⟨p, 1, none⟩ (.int .i64 l)).setCell ⟨p, 2, none⟩ (.slice (some ⟨wA.heap.size, 0, none⟩) 0 0))) (by go_simp) ?_
        refine hK _ _ ⟨below_setCell (below_setCell (below_setCell hb hp) hp) hp, ?_⟩
        try simp only [Act.put]
        refine wpAnyH_done (by kernel_rfl) ?_ _
        exact main wA.heap.size p _ (row_set (i := 2) (v := .slice (some ⟨wA.heap.size, 0, none⟩) 0 0) (row_set (i := 1) (v := .int .i64 l) (row_set (i := 0) (v := .int .i64 r) nx))) (below_setCell (below_setCell (below_setCell hb hp) hp) hp) (own_onlyX (own_onlyX (own_onlyX ow (only_setCell p 0 _ _) (fun e => hne (Option.some.inj e))) (only_setCell p 1 _ _) (fun e => hne (Option.some.inj e))) (only_setCell p 2 _ _) (fun e => hne (Option.some.inj e))) hp hne
      · refine wpOp_step (o := { dst := some 4, op := Op.alloc 33, type := 0, pos := "l05_wire.go:100", after := #[], guard := none }) rfl fun K' hK => step_valueW (by rfl) (.pointer (some ⟨wA.heap.size, 0, none⟩)) ((World.drewN wA 1).alloc (.cells #[.int .i64 0, .int .i64 0, .slice none 0 0] 33)) (by (go_simp; try rfl)) ?_
        refine hK _ _ ⟨(bl_al (o := .cells #[.int .i64 0, .int .i64 0, .slice none 0 0] 33) hS0), ?_⟩
        simp only [Act.put, List.setIfInBounds_toArray, List.set_cons_zero, List.set_cons_succ]
        refine wpAnyH_one (i := 7) (by kernel_rfl) ?_
        refine wpOp_step (o := { dst := some 23, op := Op.buildSlice 31 0 #[], type := 31, pos := "l05_wire.go:100", after := #[], guard := none }) rfl fun K' hK => step_valueW (by rfl) (.slice (some ⟨(wA.heap.size + 1), 0, none⟩) 0 0) (((World.drewN wA 1).alloc (.cells #[.int .i64 0, .int .i64 0, .slice none 0 0] 33)).alloc (.cells #[] 9)) (by (go_simp; try rfl)) ?_
        refine hK _ _ ⟨(bl_al (o := .cells #[] 9) (bl_al (o := .cells #[.int .i64 0, .int .i64 0, .slice none 0 0] 33) hS0)), ?_⟩
        simp only [Act.put, List.setIfInBounds_toArray, List.set_cons_zero, List.set_cons_succ]
        refine wpAnyH_take (i := 8) (oi := { dst := some 24, op := Op.build 33 #[(0, Operand.tmp 18), (1, Operand.tmp 22), (2, Operand.tmp 23)], type := 33, pos := "l05_wire.go:100", after := #[{ on := 2, ground := Ground.data }, { on := 6, ground := Ground.data }, { on := 7, ground := Ground.data }], guard := none }) (v := ?_) rfl (by kernel_rfl) (by kernel_rfl) (by kernel_rfl) (fun _ _ _ h => h) (Or.inl ⟨by rfl, ?_⟩) (bl_al (o := .cells #[] 9) (bl_al (o := .cells #[.int .i64 0, .int .i64 0, .slice none 0 0] 33) hS0)) ?_
        rotate_left
        · intro W hSw
          obtain ⟨cl4, cl5⟩ := unhide cells W (bl_st hSw (unhide BA))
          go_simp
          try with_reducible rfl
        simp only [Act.put, List.setIfInBounds_toArray, List.set_cons_zero, List.set_cons_succ]
        have nx : (((World.drewN wA 1).alloc (.cells #[.int .i64 0, .int .i64 0, .slice none 0 0] 33)).alloc (.cells #[] 9)).heap[wA.heap.size]? = some (.cells #[.int .i64 0, .int .i64 0, .slice none 0 0] 33 (0, 0)) := NXXI
        have hb : Below wA.heap.size wA (((World.drewN wA 1).alloc (.cells #[.int .i64 0, .int .i64 0, .slice none 0 0] 33)).alloc (.cells #[] 9)) := (bl_al (o := .cells #[] 9) (bl_al (o := .cells #[.int .i64 0, .int .i64 0, .slice none 0 0] 33) hS0))
        have ow : (((World.drewN wA 1).alloc (.cells #[.int .i64 0, .int .i64 0, .slice none 0 0] 33)).alloc (.cells #[] 9)).ownsRow wA.heap.size 9 1 (.slice (some ⟨(wA.heap.size + 1), 0, none⟩) 0 0) 0 (([] : List ByteArray).map Value.string) := OWXI
        have hp : wA.heap.size ≤ wA.heap.size := by omega
        have hne : (wA.heap.size + 1) ≠ wA.heap.size := by omega
        clear NXIX NXXI OWIX OWXI
        generalize (((World.drewN wA 1).alloc (.cells #[.int .i64 0, .int .i64 0, .slice none 0 0] 33)).alloc (.cells #[] 9)) = wB at *
        generalize wA.heap.size + 1 = gi at *
        have px0 : wB.cell? ⟨wA.heap.size, 0, none⟩ = some (.int .i64 0) := row_cell nx
        have px1 : wB.cell? ⟨wA.heap.size, 1, none⟩ = some (.int .i64 0) := row_cell nx
        have px2 : wB.cell? ⟨wA.heap.size, 2, none⟩ = some (.slice none 0 0) := row_cell nx
        have fx0 : wB.frozen? ⟨wA.heap.size, 0, none⟩ = false := row_free nx
        have fx1 : wB.frozen? ⟨wA.heap.size, 1, none⟩ = false := row_free nx
        have fx2 : wB.frozen? ⟨wA.heap.size, 2, none⟩ = false := row_free nx
        refine wpAnyH_one (i := 10) (by kernel_rfl) ?_
        refine wpOp_step (o := { dst := none, op := Op.store 33 (Operand.tmp 4) (Operand.tmp 24), type := 0, pos := "l05_wire.go:100", after := #[{ on := 9, ground := Ground.data }, { on := 8, ground := Ground.data }, { on := 2, ground := Ground.chain }, { on := 0, ground := Ground.phase }, { on := 1, ground := Ground.phase }, { on := 2, ground := Ground.phase }, { on := 3, ground := Ground.phase }, { on := 4, ground := Ground.phase }, { on := 5, ground := Ground.phase }, { on := 6, ground := Ground.phase }, { on := 7, ground := Ground.phase }, { on := 8, ground := Ground.phase }, { on := 9, ground := Ground.phase }], guard := none }) rfl fun K' hK => step_skipW (by rfl) ((((wB.setCell ⟨wA.heap.size, 0, none⟩ (.int .i64 r)).setCell ⟨wA.heap.size, 1, none⟩ (.int .i64 l)).setCell ⟨wA.heap.size, 2, none⟩ (.slice (some ⟨gi, 0, none⟩) 0 0))) (by go_simp) ?_
        refine hK _ _ ⟨below_setCell (below_setCell (below_setCell hb hp) hp) hp, ?_⟩
        try simp only [Act.put]
        refine wpAnyH_done (by kernel_rfl) ?_ _
        exact main gi wA.heap.size _ (row_set (i := 2) (v := .slice (some ⟨gi, 0, none⟩) 0 0) (row_set (i := 1) (v := .int .i64 l) (row_set (i := 0) (v := .int .i64 r) nx))) (below_setCell (below_setCell (below_setCell hb hp) hp) hp) (own_onlyX (own_onlyX (own_onlyX ow (only_setCell wA.heap.size 0 _ _) (fun e => hne (Option.some.inj e))) (only_setCell wA.heap.size 1 _ _) (fun e => hne (Option.some.inj e))) (only_setCell wA.heap.size 2 _ _) (fun e => hne (Option.some.inj e))) hp hne
    · refine wpOp_step (o := { dst := some 23, op := Op.buildSlice 31 0 #[], type := 31, pos := "l05_wire.go:100", after := #[], guard := none }) rfl fun K' hK => step_valueW (by rfl) (.slice (some ⟨wA.heap.size, 0, none⟩) 0 0) ((World.drewN wA 1).alloc (.cells #[] 9)) (by (go_simp; try rfl)) ?_
      refine hK _ _ ⟨(bl_al (o := .cells #[] 9) hS0), ?_⟩
      simp only [Act.put, List.setIfInBounds_toArray, List.set_cons_zero, List.set_cons_succ]
      refine wpAnyH_two (i := 2) (j := 9) (by kernel_rfl) ?_ ?_
      · refine wpOp_step (o := { dst := some 18, op := Op.call { callee := Callee.value (Operand.func 30), args := #[Operand.tmp 17], argTypes := #[22] }, type := 3, pos := "l05_wire.go:100", after := #[{ on := 1, ground := Ground.data }], guard := none }) rfl fun K' hK => step_enterW (by rfl) 30 #[.slice (some ⟨g, off, none⟩) 4 cap] (by go_simp) ((unhide o1 (((World.drewN wA 1).alloc (.cells #[] 9))) (bl_st (bl_al (o := .cells #[] 9) hS0) (unhide BA))).mono ?_)
        rintro e wc ⟨rfl, rfl⟩
        skip
        refine ⟨_, rfl, hK _ _ ⟨(bl_al (o := .cells #[] 9) hS0), ?_⟩⟩
        simp only [Act.put, List.setIfInBounds_toArray, List.set_cons_zero, List.set_cons_succ]
        refine wpAnyH_take (i := 8) (oi := { dst := some 24, op := Op.build 33 #[(0, Operand.tmp 18), (1, Operand.tmp 22), (2, Operand.tmp 23)], type := 33, pos := "l05_wire.go:100", after := #[{ on := 2, ground := Ground.data }, { on := 6, ground := Ground.data }, { on := 7, ground := Ground.data }], guard := none }) (v := ?_) rfl (by kernel_rfl) (by kernel_rfl) (by kernel_rfl) (fun _ _ _ h => h) (Or.inl ⟨by rfl, ?_⟩) (bl_al (o := .cells #[] 9) hS0) ?_
        rotate_left
        · intro W hSw
          obtain ⟨cl4, cl5⟩ := unhide cells W (bl_st hSw (unhide BA))
          go_simp
          try with_reducible rfl
        simp only [Act.put, List.setIfInBounds_toArray, List.set_cons_zero, List.set_cons_succ]
        refine wpAnyH_one (i := 9) (by kernel_rfl) ?_
        refine wpOp_step (o := { dst := some 4, op := Op.alloc 33, type := 0, pos := "l05_wire.go:100", after := #[], guard := none }) rfl fun K' hK => step_valueW (by rfl) (.pointer (some ⟨(wA.heap.size + 1), 0, none⟩)) (((World.drewN wA 1).alloc (.cells #[] 9)).alloc (.cells #[.int .i64 0, .int .i64 0, .slice none 0 0] 33)) (by (go_simp; try rfl)) ?_
        refine hK _ _ ⟨(bl_al (o := .cells #[.int .i64 0, .int .i64 0, .slice none 0 0] 33) (bl_al (o := .cells #[] 9) hS0)), ?_⟩
        simp only [Act.put, List.setIfInBounds_toArray, List.set_cons_zero, List.set_cons_succ]
        have nx : (((World.drewN wA 1).alloc (.cells #[] 9)).alloc (.cells #[.int .i64 0, .int .i64 0, .slice none 0 0] 33)).heap[(wA.heap.size + 1)]? = some (.cells #[.int .i64 0, .int .i64 0, .slice none 0 0] 33 (0, 0)) := NXIX
        have hb : Below wA.heap.size wA (((World.drewN wA 1).alloc (.cells #[] 9)).alloc (.cells #[.int .i64 0, .int .i64 0, .slice none 0 0] 33)) := (bl_al (o := .cells #[.int .i64 0, .int .i64 0, .slice none 0 0] 33) (bl_al (o := .cells #[] 9) hS0))
        have ow : (((World.drewN wA 1).alloc (.cells #[] 9)).alloc (.cells #[.int .i64 0, .int .i64 0, .slice none 0 0] 33)).ownsRow wA.heap.size 9 1 (.slice (some ⟨wA.heap.size, 0, none⟩) 0 0) 0 (([] : List ByteArray).map Value.string) := OWIX
        have hp : wA.heap.size ≤ (wA.heap.size + 1) := by omega
        have hne : wA.heap.size ≠ (wA.heap.size + 1) := by omega
        clear NXIX NXXI OWIX OWXI
        generalize (((World.drewN wA 1).alloc (.cells #[] 9)).alloc (.cells #[.int .i64 0, .int .i64 0, .slice none 0 0] 33)) = wB at *
        generalize wA.heap.size + 1 = p at *
        have px0 : wB.cell? ⟨p, 0, none⟩ = some (.int .i64 0) := row_cell nx
        have px1 : wB.cell? ⟨p, 1, none⟩ = some (.int .i64 0) := row_cell nx
        have px2 : wB.cell? ⟨p, 2, none⟩ = some (.slice none 0 0) := row_cell nx
        have fx0 : wB.frozen? ⟨p, 0, none⟩ = false := row_free nx
        have fx1 : wB.frozen? ⟨p, 1, none⟩ = false := row_free nx
        have fx2 : wB.frozen? ⟨p, 2, none⟩ = false := row_free nx
        refine wpAnyH_one (i := 10) (by kernel_rfl) ?_
        refine wpOp_step (o := { dst := none, op := Op.store 33 (Operand.tmp 4) (Operand.tmp 24), type := 0, pos := "l05_wire.go:100", after := #[{ on := 9, ground := Ground.data }, { on := 8, ground := Ground.data }, { on := 2, ground := Ground.chain }, { on := 0, ground := Ground.phase }, { on := 1, ground := Ground.phase }, { on := 2, ground := Ground.phase }, { on := 3, ground := Ground.phase }, { on := 4, ground := Ground.phase }, { on := 5, ground := Ground.phase }, { on := 6, ground := Ground.phase }, { on := 7, ground := Ground.phase }, { on := 8, ground := Ground.phase }, { on := 9, ground := Ground.phase }], guard := none }) rfl fun K' hK => step_skipW (by rfl) ((((wB.setCell ⟨p, 0, none⟩ (.int .i64 r)).setCell ⟨p, 1, none⟩ (.int .i64 l)).setCell ⟨p, 2, none⟩ (.slice (some ⟨wA.heap.size, 0, none⟩) 0 0))) (by go_simp) ?_
        refine hK _ _ ⟨below_setCell (below_setCell (below_setCell hb hp) hp) hp, ?_⟩
        try simp only [Act.put]
        refine wpAnyH_done (by kernel_rfl) ?_ _
        exact main wA.heap.size p _ (row_set (i := 2) (v := .slice (some ⟨wA.heap.size, 0, none⟩) 0 0) (row_set (i := 1) (v := .int .i64 l) (row_set (i := 0) (v := .int .i64 r) nx))) (below_setCell (below_setCell (below_setCell hb hp) hp) hp) (own_onlyX (own_onlyX (own_onlyX ow (only_setCell p 0 _ _) (fun e => hne (Option.some.inj e))) (only_setCell p 1 _ _) (fun e => hne (Option.some.inj e))) (only_setCell p 2 _ _) (fun e => hne (Option.some.inj e))) hp hne
      · refine wpOp_step (o := { dst := some 4, op := Op.alloc 33, type := 0, pos := "l05_wire.go:100", after := #[], guard := none }) rfl fun K' hK => step_valueW (by rfl) (.pointer (some ⟨(wA.heap.size + 1), 0, none⟩)) (((World.drewN wA 1).alloc (.cells #[] 9)).alloc (.cells #[.int .i64 0, .int .i64 0, .slice none 0 0] 33)) (by (go_simp; try rfl)) ?_
        refine hK _ _ ⟨(bl_al (o := .cells #[.int .i64 0, .int .i64 0, .slice none 0 0] 33) (bl_al (o := .cells #[] 9) hS0)), ?_⟩
        simp only [Act.put, List.setIfInBounds_toArray, List.set_cons_zero, List.set_cons_succ]
        refine wpAnyH_one (i := 2) (by kernel_rfl) ?_
        refine wpOp_step (o := { dst := some 18, op := Op.call { callee := Callee.value (Operand.func 30), args := #[Operand.tmp 17], argTypes := #[22] }, type := 3, pos := "l05_wire.go:100", after := #[{ on := 1, ground := Ground.data }], guard := none }) rfl fun K' hK => step_enterW (by rfl) 30 #[.slice (some ⟨g, off, none⟩) 4 cap] (by go_simp) ((unhide o1 ((((World.drewN wA 1).alloc (.cells #[] 9)).alloc (.cells #[.int .i64 0, .int .i64 0, .slice none 0 0] 33))) (bl_st (bl_al (o := .cells #[.int .i64 0, .int .i64 0, .slice none 0 0] 33) (bl_al (o := .cells #[] 9) hS0)) (unhide BA))).mono ?_)
        rintro e wc ⟨rfl, rfl⟩
        skip
        refine ⟨_, rfl, hK _ _ ⟨(bl_al (o := .cells #[.int .i64 0, .int .i64 0, .slice none 0 0] 33) (bl_al (o := .cells #[] 9) hS0)), ?_⟩⟩
        simp only [Act.put, List.setIfInBounds_toArray, List.set_cons_zero, List.set_cons_succ]
        refine wpAnyH_take (i := 8) (oi := { dst := some 24, op := Op.build 33 #[(0, Operand.tmp 18), (1, Operand.tmp 22), (2, Operand.tmp 23)], type := 33, pos := "l05_wire.go:100", after := #[{ on := 2, ground := Ground.data }, { on := 6, ground := Ground.data }, { on := 7, ground := Ground.data }], guard := none }) (v := ?_) rfl (by kernel_rfl) (by kernel_rfl) (by kernel_rfl) (fun _ _ _ h => h) (Or.inl ⟨by rfl, ?_⟩) (bl_al (o := .cells #[.int .i64 0, .int .i64 0, .slice none 0 0] 33) (bl_al (o := .cells #[] 9) hS0)) ?_
        rotate_left
        · intro W hSw
          obtain ⟨cl4, cl5⟩ := unhide cells W (bl_st hSw (unhide BA))
          go_simp
          try with_reducible rfl
        simp only [Act.put, List.setIfInBounds_toArray, List.set_cons_zero, List.set_cons_succ]
        have nx : (((World.drewN wA 1).alloc (.cells #[] 9)).alloc (.cells #[.int .i64 0, .int .i64 0, .slice none 0 0] 33)).heap[(wA.heap.size + 1)]? = some (.cells #[.int .i64 0, .int .i64 0, .slice none 0 0] 33 (0, 0)) := NXIX
        have hb : Below wA.heap.size wA (((World.drewN wA 1).alloc (.cells #[] 9)).alloc (.cells #[.int .i64 0, .int .i64 0, .slice none 0 0] 33)) := (bl_al (o := .cells #[.int .i64 0, .int .i64 0, .slice none 0 0] 33) (bl_al (o := .cells #[] 9) hS0))
        have ow : (((World.drewN wA 1).alloc (.cells #[] 9)).alloc (.cells #[.int .i64 0, .int .i64 0, .slice none 0 0] 33)).ownsRow wA.heap.size 9 1 (.slice (some ⟨wA.heap.size, 0, none⟩) 0 0) 0 (([] : List ByteArray).map Value.string) := OWIX
        have hp : wA.heap.size ≤ (wA.heap.size + 1) := by omega
        have hne : wA.heap.size ≠ (wA.heap.size + 1) := by omega
        clear NXIX NXXI OWIX OWXI
        generalize (((World.drewN wA 1).alloc (.cells #[] 9)).alloc (.cells #[.int .i64 0, .int .i64 0, .slice none 0 0] 33)) = wB at *
        generalize wA.heap.size + 1 = p at *
        have px0 : wB.cell? ⟨p, 0, none⟩ = some (.int .i64 0) := row_cell nx
        have px1 : wB.cell? ⟨p, 1, none⟩ = some (.int .i64 0) := row_cell nx
        have px2 : wB.cell? ⟨p, 2, none⟩ = some (.slice none 0 0) := row_cell nx
        have fx0 : wB.frozen? ⟨p, 0, none⟩ = false := row_free nx
        have fx1 : wB.frozen? ⟨p, 1, none⟩ = false := row_free nx
        have fx2 : wB.frozen? ⟨p, 2, none⟩ = false := row_free nx
        refine wpAnyH_one (i := 10) (by kernel_rfl) ?_
        refine wpOp_step (o := { dst := none, op := Op.store 33 (Operand.tmp 4) (Operand.tmp 24), type := 0, pos := "l05_wire.go:100", after := #[{ on := 9, ground := Ground.data }, { on := 8, ground := Ground.data }, { on := 2, ground := Ground.chain }, { on := 0, ground := Ground.phase }, { on := 1, ground := Ground.phase }, { on := 2, ground := Ground.phase }, { on := 3, ground := Ground.phase }, { on := 4, ground := Ground.phase }, { on := 5, ground := Ground.phase }, { on := 6, ground := Ground.phase }, { on := 7, ground := Ground.phase }, { on := 8, ground := Ground.phase }, { on := 9, ground := Ground.phase }], guard := none }) rfl fun K' hK => step_skipW (by rfl) ((((wB.setCell ⟨p, 0, none⟩ (.int .i64 r)).setCell ⟨p, 1, none⟩ (.int .i64 l)).setCell ⟨p, 2, none⟩ (.slice (some ⟨wA.heap.size, 0, none⟩) 0 0))) (by go_simp) ?_
        refine hK _ _ ⟨below_setCell (below_setCell (below_setCell hb hp) hp) hp, ?_⟩
        try simp only [Act.put]
        refine wpAnyH_done (by kernel_rfl) ?_ _
        exact main wA.heap.size p _ (row_set (i := 2) (v := .slice (some ⟨wA.heap.size, 0, none⟩) 0 0) (row_set (i := 1) (v := .int .i64 l) (row_set (i := 0) (v := .int .i64 r) nx))) (below_setCell (below_setCell (below_setCell hb hp) hp) hp) (own_onlyX (own_onlyX (own_onlyX ow (only_setCell p 0 _ _) (fun e => hne (Option.some.inj e))) (only_setCell p 1 _ _) (fun e => hne (Option.some.inj e))) (only_setCell p 2 _ _) (fun e => hne (Option.some.inj e))) hp hne
    · refine wpOp_step (o := { dst := some 4, op := Op.alloc 33, type := 0, pos := "l05_wire.go:100", after := #[], guard := none }) rfl fun K' hK => step_valueW (by rfl) (.pointer (some ⟨wA.heap.size, 0, none⟩)) ((World.drewN wA 1).alloc (.cells #[.int .i64 0, .int .i64 0, .slice none 0 0] 33)) (by (go_simp; try rfl)) ?_
      refine hK _ _ ⟨(bl_al (o := .cells #[.int .i64 0, .int .i64 0, .slice none 0 0] 33) hS0), ?_⟩
      simp only [Act.put, List.setIfInBounds_toArray, List.set_cons_zero, List.set_cons_succ]
      refine wpAnyH_two (i := 2) (j := 7) (by kernel_rfl) ?_ ?_
      · refine wpOp_step (o := { dst := some 18, op := Op.call { callee := Callee.value (Operand.func 30), args := #[Operand.tmp 17], argTypes := #[22] }, type := 3, pos := "l05_wire.go:100", after := #[{ on := 1, ground := Ground.data }], guard := none }) rfl fun K' hK => step_enterW (by rfl) 30 #[.slice (some ⟨g, off, none⟩) 4 cap] (by go_simp) ((unhide o1 (((World.drewN wA 1).alloc (.cells #[.int .i64 0, .int .i64 0, .slice none 0 0] 33))) (bl_st (bl_al (o := .cells #[.int .i64 0, .int .i64 0, .slice none 0 0] 33) hS0) (unhide BA))).mono ?_)
        rintro e wc ⟨rfl, rfl⟩
        skip
        refine ⟨_, rfl, hK _ _ ⟨(bl_al (o := .cells #[.int .i64 0, .int .i64 0, .slice none 0 0] 33) hS0), ?_⟩⟩
        simp only [Act.put, List.setIfInBounds_toArray, List.set_cons_zero, List.set_cons_succ]
        refine wpAnyH_one (i := 7) (by kernel_rfl) ?_
        refine wpOp_step (o := { dst := some 23, op := Op.buildSlice 31 0 #[], type := 31, pos := "l05_wire.go:100", after := #[], guard := none }) rfl fun K' hK => step_valueW (by rfl) (.slice (some ⟨(wA.heap.size + 1), 0, none⟩) 0 0) (((World.drewN wA 1).alloc (.cells #[.int .i64 0, .int .i64 0, .slice none 0 0] 33)).alloc (.cells #[] 9)) (by (go_simp; try rfl)) ?_
        refine hK _ _ ⟨(bl_al (o := .cells #[] 9) (bl_al (o := .cells #[.int .i64 0, .int .i64 0, .slice none 0 0] 33) hS0)), ?_⟩
        simp only [Act.put, List.setIfInBounds_toArray, List.set_cons_zero, List.set_cons_succ]
        refine wpAnyH_take (i := 8) (oi := { dst := some 24, op := Op.build 33 #[(0, Operand.tmp 18), (1, Operand.tmp 22), (2, Operand.tmp 23)], type := 33, pos := "l05_wire.go:100", after := #[{ on := 2, ground := Ground.data }, { on := 6, ground := Ground.data }, { on := 7, ground := Ground.data }], guard := none }) (v := ?_) rfl (by kernel_rfl) (by kernel_rfl) (by kernel_rfl) (fun _ _ _ h => h) (Or.inl ⟨by rfl, ?_⟩) (bl_al (o := .cells #[] 9) (bl_al (o := .cells #[.int .i64 0, .int .i64 0, .slice none 0 0] 33) hS0)) ?_
        rotate_left
        · intro W hSw
          obtain ⟨cl4, cl5⟩ := unhide cells W (bl_st hSw (unhide BA))
          go_simp
          try with_reducible rfl
        simp only [Act.put, List.setIfInBounds_toArray, List.set_cons_zero, List.set_cons_succ]
        have nx : (((World.drewN wA 1).alloc (.cells #[.int .i64 0, .int .i64 0, .slice none 0 0] 33)).alloc (.cells #[] 9)).heap[wA.heap.size]? = some (.cells #[.int .i64 0, .int .i64 0, .slice none 0 0] 33 (0, 0)) := NXXI
        have hb : Below wA.heap.size wA (((World.drewN wA 1).alloc (.cells #[.int .i64 0, .int .i64 0, .slice none 0 0] 33)).alloc (.cells #[] 9)) := (bl_al (o := .cells #[] 9) (bl_al (o := .cells #[.int .i64 0, .int .i64 0, .slice none 0 0] 33) hS0))
        have ow : (((World.drewN wA 1).alloc (.cells #[.int .i64 0, .int .i64 0, .slice none 0 0] 33)).alloc (.cells #[] 9)).ownsRow wA.heap.size 9 1 (.slice (some ⟨(wA.heap.size + 1), 0, none⟩) 0 0) 0 (([] : List ByteArray).map Value.string) := OWXI
        have hp : wA.heap.size ≤ wA.heap.size := by omega
        have hne : (wA.heap.size + 1) ≠ wA.heap.size := by omega
        clear NXIX NXXI OWIX OWXI
        generalize (((World.drewN wA 1).alloc (.cells #[.int .i64 0, .int .i64 0, .slice none 0 0] 33)).alloc (.cells #[] 9)) = wB at *
        generalize wA.heap.size + 1 = gi at *
        have px0 : wB.cell? ⟨wA.heap.size, 0, none⟩ = some (.int .i64 0) := row_cell nx
        have px1 : wB.cell? ⟨wA.heap.size, 1, none⟩ = some (.int .i64 0) := row_cell nx
        have px2 : wB.cell? ⟨wA.heap.size, 2, none⟩ = some (.slice none 0 0) := row_cell nx
        have fx0 : wB.frozen? ⟨wA.heap.size, 0, none⟩ = false := row_free nx
        have fx1 : wB.frozen? ⟨wA.heap.size, 1, none⟩ = false := row_free nx
        have fx2 : wB.frozen? ⟨wA.heap.size, 2, none⟩ = false := row_free nx
        refine wpAnyH_one (i := 10) (by kernel_rfl) ?_
        refine wpOp_step (o := { dst := none, op := Op.store 33 (Operand.tmp 4) (Operand.tmp 24), type := 0, pos := "l05_wire.go:100", after := #[{ on := 9, ground := Ground.data }, { on := 8, ground := Ground.data }, { on := 2, ground := Ground.chain }, { on := 0, ground := Ground.phase }, { on := 1, ground := Ground.phase }, { on := 2, ground := Ground.phase }, { on := 3, ground := Ground.phase }, { on := 4, ground := Ground.phase }, { on := 5, ground := Ground.phase }, { on := 6, ground := Ground.phase }, { on := 7, ground := Ground.phase }, { on := 8, ground := Ground.phase }, { on := 9, ground := Ground.phase }], guard := none }) rfl fun K' hK => step_skipW (by rfl) ((((wB.setCell ⟨wA.heap.size, 0, none⟩ (.int .i64 r)).setCell ⟨wA.heap.size, 1, none⟩ (.int .i64 l)).setCell ⟨wA.heap.size, 2, none⟩ (.slice (some ⟨gi, 0, none⟩) 0 0))) (by go_simp) ?_
        refine hK _ _ ⟨below_setCell (below_setCell (below_setCell hb hp) hp) hp, ?_⟩
        try simp only [Act.put]
        refine wpAnyH_done (by kernel_rfl) ?_ _
        exact main gi wA.heap.size _ (row_set (i := 2) (v := .slice (some ⟨gi, 0, none⟩) 0 0) (row_set (i := 1) (v := .int .i64 l) (row_set (i := 0) (v := .int .i64 r) nx))) (below_setCell (below_setCell (below_setCell hb hp) hp) hp) (own_onlyX (own_onlyX (own_onlyX ow (only_setCell wA.heap.size 0 _ _) (fun e => hne (Option.some.inj e))) (only_setCell wA.heap.size 1 _ _) (fun e => hne (Option.some.inj e))) (only_setCell wA.heap.size 2 _ _) (fun e => hne (Option.some.inj e))) hp hne
      · refine wpOp_step (o := { dst := some 23, op := Op.buildSlice 31 0 #[], type := 31, pos := "l05_wire.go:100", after := #[], guard := none }) rfl fun K' hK => step_valueW (by rfl) (.slice (some ⟨(wA.heap.size + 1), 0, none⟩) 0 0) (((World.drewN wA 1).alloc (.cells #[.int .i64 0, .int .i64 0, .slice none 0 0] 33)).alloc (.cells #[] 9)) (by (go_simp; try rfl)) ?_
        refine hK _ _ ⟨(bl_al (o := .cells #[] 9) (bl_al (o := .cells #[.int .i64 0, .int .i64 0, .slice none 0 0] 33) hS0)), ?_⟩
        simp only [Act.put, List.setIfInBounds_toArray, List.set_cons_zero, List.set_cons_succ]
        refine wpAnyH_one (i := 2) (by kernel_rfl) ?_
        refine wpOp_step (o := { dst := some 18, op := Op.call { callee := Callee.value (Operand.func 30), args := #[Operand.tmp 17], argTypes := #[22] }, type := 3, pos := "l05_wire.go:100", after := #[{ on := 1, ground := Ground.data }], guard := none }) rfl fun K' hK => step_enterW (by rfl) 30 #[.slice (some ⟨g, off, none⟩) 4 cap] (by go_simp) ((unhide o1 ((((World.drewN wA 1).alloc (.cells #[.int .i64 0, .int .i64 0, .slice none 0 0] 33)).alloc (.cells #[] 9))) (bl_st (bl_al (o := .cells #[] 9) (bl_al (o := .cells #[.int .i64 0, .int .i64 0, .slice none 0 0] 33) hS0)) (unhide BA))).mono ?_)
        rintro e wc ⟨rfl, rfl⟩
        skip
        refine ⟨_, rfl, hK _ _ ⟨(bl_al (o := .cells #[] 9) (bl_al (o := .cells #[.int .i64 0, .int .i64 0, .slice none 0 0] 33) hS0)), ?_⟩⟩
        simp only [Act.put, List.setIfInBounds_toArray, List.set_cons_zero, List.set_cons_succ]
        refine wpAnyH_take (i := 8) (oi := { dst := some 24, op := Op.build 33 #[(0, Operand.tmp 18), (1, Operand.tmp 22), (2, Operand.tmp 23)], type := 33, pos := "l05_wire.go:100", after := #[{ on := 2, ground := Ground.data }, { on := 6, ground := Ground.data }, { on := 7, ground := Ground.data }], guard := none }) (v := ?_) rfl (by kernel_rfl) (by kernel_rfl) (by kernel_rfl) (fun _ _ _ h => h) (Or.inl ⟨by rfl, ?_⟩) (bl_al (o := .cells #[] 9) (bl_al (o := .cells #[.int .i64 0, .int .i64 0, .slice none 0 0] 33) hS0)) ?_
        rotate_left
        · intro W hSw
          obtain ⟨cl4, cl5⟩ := unhide cells W (bl_st hSw (unhide BA))
          go_simp
          try with_reducible rfl
        simp only [Act.put, List.setIfInBounds_toArray, List.set_cons_zero, List.set_cons_succ]
        have nx : (((World.drewN wA 1).alloc (.cells #[.int .i64 0, .int .i64 0, .slice none 0 0] 33)).alloc (.cells #[] 9)).heap[wA.heap.size]? = some (.cells #[.int .i64 0, .int .i64 0, .slice none 0 0] 33 (0, 0)) := NXXI
        have hb : Below wA.heap.size wA (((World.drewN wA 1).alloc (.cells #[.int .i64 0, .int .i64 0, .slice none 0 0] 33)).alloc (.cells #[] 9)) := (bl_al (o := .cells #[] 9) (bl_al (o := .cells #[.int .i64 0, .int .i64 0, .slice none 0 0] 33) hS0))
        have ow : (((World.drewN wA 1).alloc (.cells #[.int .i64 0, .int .i64 0, .slice none 0 0] 33)).alloc (.cells #[] 9)).ownsRow wA.heap.size 9 1 (.slice (some ⟨(wA.heap.size + 1), 0, none⟩) 0 0) 0 (([] : List ByteArray).map Value.string) := OWXI
        have hp : wA.heap.size ≤ wA.heap.size := by omega
        have hne : (wA.heap.size + 1) ≠ wA.heap.size := by omega
        clear NXIX NXXI OWIX OWXI
        generalize (((World.drewN wA 1).alloc (.cells #[.int .i64 0, .int .i64 0, .slice none 0 0] 33)).alloc (.cells #[] 9)) = wB at *
        generalize wA.heap.size + 1 = gi at *
        have px0 : wB.cell? ⟨wA.heap.size, 0, none⟩ = some (.int .i64 0) := row_cell nx
        have px1 : wB.cell? ⟨wA.heap.size, 1, none⟩ = some (.int .i64 0) := row_cell nx
        have px2 : wB.cell? ⟨wA.heap.size, 2, none⟩ = some (.slice none 0 0) := row_cell nx
        have fx0 : wB.frozen? ⟨wA.heap.size, 0, none⟩ = false := row_free nx
        have fx1 : wB.frozen? ⟨wA.heap.size, 1, none⟩ = false := row_free nx
        have fx2 : wB.frozen? ⟨wA.heap.size, 2, none⟩ = false := row_free nx
        refine wpAnyH_one (i := 10) (by kernel_rfl) ?_
        refine wpOp_step (o := { dst := none, op := Op.store 33 (Operand.tmp 4) (Operand.tmp 24), type := 0, pos := "l05_wire.go:100", after := #[{ on := 9, ground := Ground.data }, { on := 8, ground := Ground.data }, { on := 2, ground := Ground.chain }, { on := 0, ground := Ground.phase }, { on := 1, ground := Ground.phase }, { on := 2, ground := Ground.phase }, { on := 3, ground := Ground.phase }, { on := 4, ground := Ground.phase }, { on := 5, ground := Ground.phase }, { on := 6, ground := Ground.phase }, { on := 7, ground := Ground.phase }, { on := 8, ground := Ground.phase }, { on := 9, ground := Ground.phase }], guard := none }) rfl fun K' hK => step_skipW (by rfl) ((((wB.setCell ⟨wA.heap.size, 0, none⟩ (.int .i64 r)).setCell ⟨wA.heap.size, 1, none⟩ (.int .i64 l)).setCell ⟨wA.heap.size, 2, none⟩ (.slice (some ⟨gi, 0, none⟩) 0 0))) (by go_simp) ?_
        refine hK _ _ ⟨below_setCell (below_setCell (below_setCell hb hp) hp) hp, ?_⟩
        try simp only [Act.put]
        refine wpAnyH_done (by kernel_rfl) ?_ _
        exact main gi wA.heap.size _ (row_set (i := 2) (v := .slice (some ⟨gi, 0, none⟩) 0 0) (row_set (i := 1) (v := .int .i64 l) (row_set (i := 0) (v := .int .i64 r) nx))) (below_setCell (below_setCell (below_setCell hb hp) hp) hp) (own_onlyX (own_onlyX (own_onlyX ow (only_setCell wA.heap.size 0 _ _) (fun e => hne (Option.some.inj e))) (only_setCell wA.heap.size 1 _ _) (fun e => hne (Option.some.inj e))) (only_setCell wA.heap.size 2 _ _) (fun e => hne (Option.some.inj e))) hp hne
  intro gi p WB nx hb ow hp hne
  have BB := hide (bl_st hb (unhide BA))
  obtain ⟨cl4, cl5⟩ := unhide cells WB (unhide BB)
  have NX := hide nx
  have HB := hide hb
  have OW := hide ow
  have HP := hide hp
  have HNE := hide hne
  have ny : WB.heap[w.heap.size]? = some (.cells #[.int .i64 0, .int .i64 0, .slice none 0 0] 33 (0, 0)) := (hb.block _ (unhide LA)).trans (unhide N0)
  have p0 : WB.cell? ⟨w.heap.size, 0, none⟩ = some (.int .i64 0) := row_cell ny
  have p1 : WB.cell? ⟨w.heap.size, 1, none⟩ = some (.int .i64 0) := row_cell ny
  have p2 : WB.cell? ⟨w.heap.size, 2, none⟩ = some (.slice none 0 0) := row_cell ny
  have y0 : WB.frozen? ⟨w.heap.size, 0, none⟩ = false := row_free ny
  have y1 : WB.frozen? ⟨w.heap.size, 1, none⟩ = false := row_free ny
  have y2 : WB.frozen? ⟨w.heap.size, 2, none⟩ = false := row_free ny
  have NY := hide ny
  clear nx hb ow hp hne ny o1 sl1
  have wN : IntKind.i64.wrap (N : Int) = (N : Int) := by rw [IntKind.wrap_i64]; omega
  go_wp2_with fail
  refine (unhide o2 WB (unhide BB)).mono ?_
  rintro e wC ⟨rfl, rfl⟩
  clear o2 sl2
  by_cases hN : 64 < N
  · have u1 : (64 : Int) < (N : Int) := by omega
    have e := (unhide HSP).symm.trans (spB_bad (unhide H6) (by unfold sF; rw [unhide HsN]; omega))
    simp only [Prod.mk.injEq] at e
    obtain ⟨⟨rfl, rfl, rfl⟩, rfl⟩ := e
    clear hN
    go_wp2
    refine bodyPost_ret (v := .tuple #[btV 0 0 (.slice none 0 0), .int .i64 3]) (results_tmp_row rfl _ _ w.heap.size 33 _ (0, 0) _ _ rfl rfl (row_set (i := 2) (v := .slice none 0 0) (row_set (i := 1) (v := .int .i64 0) (row_set (i := 0) (v := .int .i64 0) (unhide NY)))) Tryd.underlying33 rfl (by kernel_rfl)) rfl ⟨_, rfl, .inl ⟨rfl, rfl⟩, ?_⟩
    exact below_setCell (below_setCell (below_setCell (unhide BB) (Nat.le_refl _)) (Nat.le_refl _)) (Nat.le_refl _)
  have u1 : (N : Int) ≤ 64 := by omega
  by_cases hZ : 400 < Zs
  · have u2 : (400 : Int) < (Zs : Int) := by omega
    have e := (unhide HSP).symm.trans (spB_bad (unhide H6) (by unfold sF; rw [unhide HsZ]; omega))
    simp only [Prod.mk.injEq] at e
    obtain ⟨⟨rfl, rfl, rfl⟩, rfl⟩ := e
    clear hN hZ
    go_wp2
    refine bodyPost_ret (v := .tuple #[btV 0 0 (.slice none 0 0), .int .i64 3]) (results_tmp_row rfl _ _ w.heap.size 33 _ (0, 0) _ _ rfl rfl (row_set (i := 2) (v := .slice none 0 0) (row_set (i := 1) (v := .int .i64 0) (row_set (i := 0) (v := .int .i64 0) (unhide NY)))) Tryd.underlying33 rfl (by kernel_rfl)) rfl ⟨_, rfl, .inl ⟨rfl, rfl⟩, ?_⟩
    exact below_setCell (below_setCell (below_setCell (unhide BB) (Nat.le_refl _)) (Nat.le_refl _)) (Nat.le_refl _)
  have u2 : (Zs : Int) ≤ 400 := by omega
  obtain ⟨NZ, hNZ⟩ : ∃ NZ : Nat, N * Zs = NZ := ⟨_, rfl⟩
  have nz1 : NZ ≤ 25600 := by rw [← hNZ]; exact Nat.le_trans (Nat.mul_le_mul (by omega : N ≤ 64) (by omega : Zs ≤ 400)) (by omega)
  have m1 : (N : Int) * (Zs : Int) = (NZ : Int) := by rw [← hNZ]; exact (Int.natCast_mul N Zs).symm
  have m2 : (NZ : Int) ≤ 25600 := by omega
  have m3 : (0 : Int) ≤ (NZ : Int) := by omega
  by_cases hE : xs.length = 8 + NZ
  · have u3 : (xs.length : Int) = 8 + (NZ : Int) := by omega
    by_cases h0 : N = 0 ∧ 0 < Zs
    · have u4 : (N : Int) = 0 := by omega
      have u5 : (0 : Int) < (Zs : Int) := by omega
      have hNZ0 : NZ = 0 := by rw [← hNZ, h0.1, Nat.zero_mul]
      have u6 : (xs.length : Int) = 8 := by omega
      have e := (unhide HSP).symm.trans (spB_bad (unhide H6) (by unfold sF; rw [unhide HsN, unhide HsZ]; omega))
      simp only [Prod.mk.injEq] at e
      obtain ⟨⟨rfl, rfl, rfl⟩, rfl⟩ := e
      clear hN hZ h0 hE u3 m1 m2 m3 nz1 hNZ hNZ0
      go_wp2
      refine bodyPost_ret (v := .tuple #[btV 0 0 (.slice none 0 0), .int .i64 3]) (results_tmp_row rfl _ _ w.heap.size 33 _ (0, 0) _ _ rfl rfl (row_set (i := 2) (v := .slice none 0 0) (row_set (i := 1) (v := .int .i64 0) (row_set (i := 0) (v := .int .i64 0) (unhide NY)))) Tryd.underlying33 rfl (by kernel_rfl)) rfl ⟨_, rfl, .inl ⟨rfl, rfl⟩, ?_⟩
      exact below_setCell (below_setCell (below_setCell (unhide BB) (Nat.le_refl _)) (Nat.le_refl _)) (Nat.le_refl _)
    · have HF : Hid (sF xs) := hide (by unfold sF; rw [unhide HsN, unhide HsZ, hNZ]; exact ⟨by omega, by omega, hE, h0⟩)
      have u4 : ¬ ((N : Int) = 0 ∧ (0 : Int) < (Zs : Int)) := by omega
      have HNZ := hide hNZ
      have HE := hide hE
      have N64 := hide (show N ≤ 64 by omega)
      have Z400 := hide (show Zs ≤ 400 by omega)
      have I0 : Hid (sI xs Zs 0 = []) := hide rfl
      clear hN hZ hE hNZ nz1
      rcases Classical.em (N = 0) with hn0 | hn0
      · have u5 : (N : Int) = 0 := by omega
        have u6 : ¬ ((0 : Int) < (Zs : Int)) := by omega
        have u6' : (Zs : Int) = 0 := by omega
        have hz0 : NZ = 0 := by rw [← unhide HNZ, hn0, Nat.zero_mul]
        have u7 : (xs.length : Int) = 8 := by omega
        clear h0 u4 u3 m1 m2 m3 hz0
        go_wp2
        clear cl4 cl5 p0 p1 p2 y0 y1 y2
        go_loopw [7] (fun iv wr => ∃ (j : Nat) (v : Value), j ≤ N ∧ iv = .int .i64 j ∧ wr.heap[p]? = some (.cells #[.int .i64 r, .int .i64 l, v] 33 (0, 0)) ∧ Below wA.heap.size wA wr ∧ wr.ownsRow wA.heap.size 9 1 v j ((sI xs Zs j).map Value.string) ∧ v.ownBlock ≠ some p) (fun iv _ => N - (intOf iv).toNat)
        case atStart => exact ⟨0, .slice (some ⟨gi, 0, none⟩) 0 0, Nat.zero_le _, rfl, unhide NX, unhide HB, unhide OW, fun e => unhide HNE (Option.some.inj e)⟩
        case round =>
          obtain ⟨j, v, hj, rfl, hx, hbw, own, hne⟩ := hrel
          obtain ⟨Av, nv, cv, rfl⟩ : ∃ A n c, v = .slice A n c := by
            rcases own.2 with ⟨rfl, _⟩ | ⟨g, c, _, rfl, _⟩
            · exact ⟨_, _, _, rfl⟩
            · exact ⟨_, _, _, rfl⟩
          by_cases hlt : j < N
          · exfalso; omega
          · obtain rfl : j = N := by omega
            have ny : wr.heap[w.heap.size]? = some (.cells #[.int .i64 0, .int .i64 0, .slice none 0 0] 33 (0, 0)) := (hbw.block _ (unhide LA)).trans (unhide N0)
            have d0 : wr.cell? ⟨p, 0, none⟩ = some (.int .i64 r) := row_cell hx
            have d1 : wr.cell? ⟨p, 1, none⟩ = some (.int .i64 l) := row_cell hx
            have d2 : wr.cell? ⟨p, 2, none⟩ = some (.slice Av nv cv) := row_cell hx
            have os := own_strs own
            have h31 := hide (lb28 r l (.slice Av nv cv) (sI xs Zs j) wr os.strs (fun t ht => by
              unfold sI at ht
              obtain ⟨i, _, rfl⟩ := List.mem_map.1 ht
              rw [strOfNums_size]
              have h1 : (cut xs (8 + i * Zs) Zs).length ≤ Zs := by unfold cut; rw [List.length_take]; omega
              have h2 := unhide Z400
              unfold maxLen
              omega) (by rw [sI_len]; have := unhide N64; omega))
            have NYR := hide ny
            have OS := hide os
            have BW := hide (bl_st hbw (unhide BA))
            have BWA := hide hbw
            clear hx hbw own hne ny os hlt
            have SP : Hid (spB xs = if okB r l (sI xs Zs j) = true then ((r, l, sI xs Zs j), 0) else ((0, 0, []), 3)) := hide (by
              unfold spB
              rw [if_neg (by have := unhide H6; omega), unhide HsR, unhide HsL, unhide HsN, unhide HsZ]
              by_cases hk : okB r l (sI xs Zs j) = true
              · rw [if_pos hk, if_pos ⟨unhide H8, unhide HF, hk⟩]
              · rw [if_neg hk, if_neg (fun hh => hk hh.2.2)])
            cases hok : okB r l (sI xs Zs j)
            · rw [hok] at h31 SP
              have e := (unhide HSP).symm.trans ((unhide SP).trans (if_neg (by simp)))
              simp only [Prod.mk.injEq] at e
              obtain ⟨⟨rfl, rfl, rfl⟩, rfl⟩ := e
              clear hok SP HSP
              go_wp2_with fail
              refine (unhide h31).mono ?_
              rintro e wD ⟨rfl, b9⟩
              have ny := (b9.block _ (Array.getElem?_eq_some_iff.1 (unhide NYR)).1).trans (unhide NYR)
              have p0 : wD.cell? ⟨w.heap.size, 0, none⟩ = some (.int .i64 0) := row_cell ny
              have p1 : wD.cell? ⟨w.heap.size, 1, none⟩ = some (.int .i64 0) := row_cell ny
              have p2 : wD.cell? ⟨w.heap.size, 2, none⟩ = some (.slice none 0 0) := row_cell ny
              have y0 : wD.frozen? ⟨w.heap.size, 0, none⟩ = false := row_free ny
              have y1 : wD.frozen? ⟨w.heap.size, 1, none⟩ = false := row_free ny
              have y2 : wD.frozen? ⟨w.heap.size, 2, none⟩ = false := row_free ny
              have NYD := hide ny
              have B9 := hide (bl_st b9 (unhide BW))
              clear b9 ny h31
              go_wp2
              refine bodyPost_ret (v := .tuple #[btV 0 0 (.slice none 0 0), .int .i64 3]) (results_tmp_row rfl _ _ w.heap.size 33 _ (0, 0) _ _ rfl rfl (row_set (i := 2) (v := .slice none 0 0) (row_set (i := 1) (v := .int .i64 0) (row_set (i := 0) (v := .int .i64 0) (unhide NYD)))) Tryd.underlying33 rfl (by kernel_rfl)) rfl ⟨_, rfl, .inl ⟨rfl, rfl⟩, ?_⟩
              exact below_setCell (below_setCell (below_setCell (unhide B9) (Nat.le_refl _)) (Nat.le_refl _)) (Nat.le_refl _)
            · rw [hok] at h31 SP
              have e := (unhide HSP).symm.trans ((unhide SP).trans (if_pos rfl))
              simp only [Prod.mk.injEq] at e
              obtain ⟨⟨rfl, rfl, rfl⟩, rfl⟩ := e
              clear hok SP HSP
              go_wp2_with fail
              refine (unhide h31).mono ?_
              rintro e wD ⟨rfl, b9⟩
              have ny := (b9.block _ (Array.getElem?_eq_some_iff.1 (unhide NYR)).1).trans (unhide NYR)
              have p0 : wD.cell? ⟨w.heap.size, 0, none⟩ = some (.int .i64 0) := row_cell ny
              have p1 : wD.cell? ⟨w.heap.size, 1, none⟩ = some (.int .i64 0) := row_cell ny
              have p2 : wD.cell? ⟨w.heap.size, 2, none⟩ = some (.slice none 0 0) := row_cell ny
              have y0 : wD.frozen? ⟨w.heap.size, 0, none⟩ = false := row_free ny
              have y1 : wD.frozen? ⟨w.heap.size, 1, none⟩ = false := row_free ny
              have y2 : wD.frozen? ⟨w.heap.size, 2, none⟩ = false := row_free ny
              have e0 : wD.cell? ⟨p, 0, none⟩ = some (.int .i64 r') := (cell_below b9 (cell_ltW d0)).trans d0
              have e1 : wD.cell? ⟨p, 1, none⟩ = some (.int .i64 l') := (cell_below b9 (cell_ltW d0)).trans d1
              have e2 : wD.cell? ⟨p, 2, none⟩ = some (.slice Av nv cv) := (cell_below b9 (cell_ltW d0)).trans d2
              have NYD := hide ny
              have B9 := hide (bl_st b9 (unhide BW))
              have OS9 := hide (((unhide OS).below b9).wide (Nat.le_of_lt (unhide LA)) b9.size)
              have LW9 := hide (unhide LA)
              have OSL := hide (unhide OS)
              have OB9 := hide ((unhide OS).below b9)
              have SZ9 := hide b9.size
              clear b9 ny h31
              go_wp2
              refine bodyPost_ret (v := .tuple #[btV r' l' (.slice Av nv cv), .int .i64 0]) (results_tmp_row rfl _ _ w.heap.size 33 _ (0, 0) _ _ rfl rfl (row_set (i := 2) (v := .slice Av nv cv) (row_set (i := 1) (v := .int .i64 l') (row_set (i := 0) (v := .int .i64 r') (unhide NYD)))) Tryd.underlying33 rfl (by kernel_rfl)) rfl ⟨_, rfl, ?_, ?_⟩
              · refine ((((unhide OB9).lone (lone_setCell w.heap.size 0 _ _) (unhide LW9)).lone (lone_setCell w.heap.size 1 _ _) (unhide LW9)).lone (lone_setCell w.heap.size 2 _ _) (unhide LW9)).wide (Nat.le_of_lt (unhide LW9)) ?_
                rw [size_set, size_set, size_set]
                exact unhide SZ9
              · exact below_setCell (below_setCell (below_setCell (unhide B9) (Nat.le_refl _)) (Nat.le_refl _)) (Nat.le_refl _)
      · have u5 : ¬ ((N : Int) = 0) := by omega
        clear h0 u4
        go_wp2
        clear cl4 cl5 p0 p1 p2 y0 y1 y2
        go_loopw [7] (fun iv wr => ∃ (j : Nat) (v : Value), j ≤ N ∧ iv = .int .i64 j ∧ wr.heap[p]? = some (.cells #[.int .i64 r, .int .i64 l, v] 33 (0, 0)) ∧ Below wA.heap.size wA wr ∧ wr.ownsRow wA.heap.size 9 1 v j ((sI xs Zs j).map Value.string) ∧ v.ownBlock ≠ some p) (fun iv _ => N - (intOf iv).toNat)
        case atStart => exact ⟨0, .slice (some ⟨gi, 0, none⟩) 0 0, Nat.zero_le _, rfl, unhide NX, unhide HB, unhide OW, fun e => unhide HNE (Option.some.inj e)⟩
        case round =>
          obtain ⟨j, v, hj, rfl, hx, hbw, own, hne⟩ := hrel
          obtain ⟨Av, nv, cv, rfl⟩ : ∃ A n c, v = .slice A n c := by
            rcases own.2 with ⟨rfl, _⟩ | ⟨g, c, _, rfl, _⟩
            · exact ⟨_, _, _, rfl⟩
            · exact ⟨_, _, _, rfl⟩
          by_cases hlt : j < N
          · have q1 : (j : Int) < (N : Int) := by omega
            have q0 : (0 : Int) ≤ (j : Int) := by omega
            have HJ := hide hlt
            obtain ⟨P, hP⟩ : ∃ P : Nat, j * Zs = P := ⟨_, rfl⟩
            obtain ⟨P2, hP2⟩ : ∃ P2 : Nat, (j + 1) * Zs = P2 := ⟨_, rfl⟩
            have hPP : P2 = P + Zs := by rw [← hP2, ← hP, Nat.succ_mul]
            have hPN : P2 ≤ NZ := by rw [← hP2, ← unhide HNZ]; exact Nat.mul_le_mul_right _ hlt
            have m4 : (j : Int) * (Zs : Int) = (P : Int) := by rw [← hP]; exact (Int.natCast_mul j Zs).symm
            have m5 : ((j : Int) + 1) * (Zs : Int) = (P2 : Int) := by rw [← hP2]; exact (Int.natCast_mul (j + 1) Zs).symm
            have m6 : (0 : Int) ≤ (P : Int) := by omega
            have m7 : (P : Int) ≤ 25600 := by omega
            have m8 : (0 : Int) ≤ (P2 : Int) := by omega
            have m9 : (P2 : Int) ≤ 25600 := by omega
            have v1 : IntKind.i64.wrap ((j : Int) + 1) = (j : Int) + 1 := by rw [IntKind.wrap_i64]; omega
            have v2 : IntKind.i64.wrap (P : Int) = (P : Int) := by rw [IntKind.wrap_i64]; omega
            have v3 : IntKind.i64.wrap (P2 : Int) = (P2 : Int) := by rw [IntKind.wrap_i64]; omega
            have v4 : IntKind.i64.wrap (8 + (P : Int)) = 8 + (P : Int) := by rw [IntKind.wrap_i64]; omega
            have v5 : IntKind.i64.wrap (8 + (P2 : Int)) = 8 + (P2 : Int) := by rw [IntKind.wrap_i64]; omega
            obtain ⟨A', slr, bc⟩ := slice_cut (some ⟨g, off, none⟩) cap xs w (unhide HV) (8 + P) (8 + P2) (by omega) (by have := unhide HE; omega)
            rw [show 8 + P2 - (8 + P) = Zs by omega] at slr bc
            rw [show ((8 + P : Nat) : Int) = 8 + (P : Int) by omega, show ((8 + P2 : Nat) : Int) = 8 + (P2 : Int) by omega] at slr
            have E := hide (sI_succ xs Zs j)
            rw [hP] at E
            have CVF := hide fun W (hb : Below w.heap.size w W) => (bc.below hb).conv
            clear bc hP hP2 hPP hPN hlt hj
            generalize strOfNums (cut xs (8 + P) Zs) = t at *
            go_wp2
            refine wp_region_held (S := fun W' => Below w.heap.size w W') (by kernel_rfl) ?_
            have s0 : Below w.heap.size w { wr with drawn := wr.drawn + 1 } := below_drewN (bl_st hbw (unhide BA)) 1
            have cxw : wr.cell? ⟨p, 2, none⟩ = some (.slice Av nv cv) := row_cell hx
            refine wpAnyH_take (i := 0) (oi := { dst := some 61, op := Op.fieldAddr 33 (Operand.tmp 4) 2, type := 0, pos := "l05_wire.go:107", after := #[], guard := none }) (v := ?_) rfl (by kernel_rfl) (by kernel_rfl) (by kernel_rfl) (fun _ _ _ h => h) (Or.inl ⟨by rfl, ?_⟩) s0 ?_
            rotate_left
            · intro W hSw
              have cvw := unhide CVF W hSw
              go_simp
              try with_reducible rfl
            simp only [Act.put, List.setIfInBounds_toArray, List.set_cons_zero, List.set_cons_succ]
            refine wpAnyH_take (i := 2) (oi := { dst := some 63, op := Op.move (Operand.tmp 0), type := 22, pos := "l05_wire.go:107", after := #[], guard := none }) (v := ?_) rfl (by kernel_rfl) (by kernel_rfl) (by kernel_rfl) (fun _ _ _ h => h) (Or.inl ⟨by rfl, ?_⟩) s0 ?_
            rotate_left
            · intro W hSw
              have cvw := unhide CVF W hSw
              go_simp
              try with_reducible rfl
            simp only [Act.put, List.setIfInBounds_toArray, List.set_cons_zero, List.set_cons_succ]
            refine wpAnyH_take (i := 3) (oi := { dst := some 64, op := Op.move (Operand.tmp 7), type := 3, pos := "l05_wire.go:107", after := #[], guard := none }) (v := ?_) rfl (by kernel_rfl) (by kernel_rfl) (by kernel_rfl) (fun _ _ _ h => h) (Or.inl ⟨by rfl, ?_⟩) s0 ?_
            rotate_left
            · intro W hSw
              have cvw := unhide CVF W hSw
              go_simp
              try with_reducible rfl
            simp only [Act.put, List.setIfInBounds_toArray, List.set_cons_zero, List.set_cons_succ]
            refine wpAnyH_take (i := 4) (oi := { dst := some 65, op := Op.move (Operand.tmp 6), type := 3, pos := "l05_wire.go:107", after := #[], guard := none }) (v := ?_) rfl (by kernel_rfl) (by kernel_rfl) (by kernel_rfl) (fun _ _ _ h => h) (Or.inl ⟨by rfl, ?_⟩) s0 ?_
            rotate_left
            · intro W hSw
              have cvw := unhide CVF W hSw
              go_simp
              try with_reducible rfl
            simp only [Act.put, List.setIfInBounds_toArray, List.set_cons_zero, List.set_cons_succ]
            refine wpAnyH_take (i := 5) (oi := { dst := some 66, op := Op.binOp BinOp.mul 3 (Operand.tmp 64) (Operand.tmp 65) 3, type := 3, pos := "l05_wire.go:107", after := #[{ on := 3, ground := Ground.data }, { on := 4, ground := Ground.data }], guard := none }) (v := ?_) rfl (by kernel_rfl) (by kernel_rfl) (by kernel_rfl) (fun _ _ _ h => h) (Or.inl ⟨by rfl, ?_⟩) s0 ?_
            rotate_left
            · intro W hSw
              have cvw := unhide CVF W hSw
              go_simp
              try with_reducible rfl
            simp only [Act.put, List.setIfInBounds_toArray, List.set_cons_zero, List.set_cons_succ]
            refine wpAnyH_take (i := 6) (oi := { dst := some 67, op := Op.binOp BinOp.add 3 (Operand.const (Value.int IntKind.i64 8)) (Operand.tmp 66) 3, type := 3, pos := "l05_wire.go:107", after := #[{ on := 5, ground := Ground.data }], guard := none }) (v := ?_) rfl (by kernel_rfl) (by kernel_rfl) (by kernel_rfl) (fun _ _ _ h => h) (Or.inl ⟨by rfl, ?_⟩) s0 ?_
            rotate_left
            · intro W hSw
              have cvw := unhide CVF W hSw
              go_simp
              try with_reducible rfl
            simp only [Act.put, List.setIfInBounds_toArray, List.set_cons_zero, List.set_cons_succ]
            refine wpAnyH_take (i := 7) (oi := { dst := some 68, op := Op.move (Operand.tmp 7), type := 3, pos := "l05_wire.go:107", after := #[], guard := none }) (v := ?_) rfl (by kernel_rfl) (by kernel_rfl) (by kernel_rfl) (fun _ _ _ h => h) (Or.inl ⟨by rfl, ?_⟩) s0 ?_
            rotate_left
            · intro W hSw
              have cvw := unhide CVF W hSw
              go_simp
              try with_reducible rfl
            simp only [Act.put, List.setIfInBounds_toArray, List.set_cons_zero, List.set_cons_succ]
            refine wpAnyH_take (i := 8) (oi := { dst := some 69, op := Op.binOp BinOp.add 3 (Operand.tmp 68) (Operand.const (Value.int IntKind.i64 1)) 3, type := 3, pos := "l05_wire.go:107", after := #[{ on := 7, ground := Ground.data }], guard := none }) (v := ?_) rfl (by kernel_rfl) (by kernel_rfl) (by kernel_rfl) (fun _ _ _ h => h) (Or.inl ⟨by rfl, ?_⟩) s0 ?_
            rotate_left
            · intro W hSw
              have cvw := unhide CVF W hSw
              go_simp
              try with_reducible rfl
            simp only [Act.put, List.setIfInBounds_toArray, List.set_cons_zero, List.set_cons_succ]
            refine wpAnyH_take (i := 9) (oi := { dst := some 70, op := Op.move (Operand.tmp 6), type := 3, pos := "l05_wire.go:107", after := #[], guard := none }) (v := ?_) rfl (by kernel_rfl) (by kernel_rfl) (by kernel_rfl) (fun _ _ _ h => h) (Or.inl ⟨by rfl, ?_⟩) s0 ?_
            rotate_left
            · intro W hSw
              have cvw := unhide CVF W hSw
              go_simp
              try with_reducible rfl
            simp only [Act.put, List.setIfInBounds_toArray, List.set_cons_zero, List.set_cons_succ]
            refine wpAnyH_take (i := 10) (oi := { dst := some 71, op := Op.binOp BinOp.mul 3 (Operand.tmp 69) (Operand.tmp 70) 3, type := 3, pos := "l05_wire.go:107", after := #[{ on := 8, ground := Ground.data }, { on := 9, ground := Ground.data }], guard := none }) (v := ?_) rfl (by kernel_rfl) (by kernel_rfl) (by kernel_rfl) (fun _ _ _ h => h) (Or.inl ⟨by rfl, ?_⟩) s0 ?_
            rotate_left
            · intro W hSw
              have cvw := unhide CVF W hSw
              go_simp
              try with_reducible rfl
            simp only [Act.put, List.setIfInBounds_toArray, List.set_cons_zero, List.set_cons_succ]
            refine wpAnyH_take (i := 11) (oi := { dst := some 72, op := Op.binOp BinOp.add 3 (Operand.const (Value.int IntKind.i64 8)) (Operand.tmp 71) 3, type := 3, pos := "l05_wire.go:107", after := #[{ on := 10, ground := Ground.data }], guard := none }) (v := ?_) rfl (by kernel_rfl) (by kernel_rfl) (by kernel_rfl) (fun _ _ _ h => h) (Or.inl ⟨by rfl, ?_⟩) s0 ?_
            rotate_left
            · intro W hSw
              have cvw := unhide CVF W hSw
              go_simp
              try with_reducible rfl
            simp only [Act.put, List.setIfInBounds_toArray, List.set_cons_zero, List.set_cons_succ]
            refine wpAnyH_take (i := 12) (oi := { dst := some 73, op := Op.slice 22 (Operand.tmp 63) (some (Operand.tmp 67)) (some (Operand.tmp 72)) none, type := 22, pos := "l05_wire.go:107", after := #[{ on := 2, ground := Ground.data }, { on := 6, ground := Ground.data }, { on := 11, ground := Ground.data }], guard := none }) (v := ?_) rfl (by kernel_rfl) (by kernel_rfl) (by kernel_rfl) (fun _ _ _ h => h) (Or.inl ⟨by rfl, ?_⟩) s0 ?_
            rotate_left
            · intro W hSw
              have cvw := unhide CVF W hSw
              go_simp
              try with_reducible rfl
            simp only [Act.put, List.setIfInBounds_toArray, List.set_cons_zero, List.set_cons_succ]
            refine wpAnyH_take (i := 13) (oi := { dst := some 74, op := Op.convert 22 9 (Operand.tmp 73), type := 9, pos := "l05_wire.go:107", after := #[{ on := 12, ground := Ground.data }], guard := none }) (v := ?_) rfl (by kernel_rfl) (by kernel_rfl) (by kernel_rfl) (fun _ _ _ h => h) (Or.inl ⟨by rfl, ?_⟩) s0 ?_
            rotate_left
            · intro W hSw
              have cvw := unhide CVF W hSw
              go_simp
              try with_reducible rfl
            simp only [Act.put, List.setIfInBounds_toArray, List.set_cons_zero, List.set_cons_succ]
            refine wpAnyH_two (i := 1) (j := 14) (by kernel_rfl) ?_ ?_
            · refine wpOp_step (o := { dst := some 62, op := Op.load 31 (Operand.tmp 61), type := 31, pos := "l05_wire.go:107", after := #[{ on := 0, ground := Ground.data }], guard := none }) rfl fun K' hK => step_valueW (by rfl) (.slice Av nv cv) ({ wr with drawn := wr.drawn + 1 }) (by go_simp) ?_
              refine hK _ _ ⟨s0, ?_⟩
              simp only [Act.put, List.setIfInBounds_toArray, List.set_cons_zero, List.set_cons_succ]
              refine wpAnyH_one (i := 14) (by kernel_rfl) ?_
              refine wpOp_step (o := { dst := some 75, op := Op.buildSlice 31 1 #[(0, Operand.tmp 74)], type := 31, pos := "l05_wire.go:107", after := #[{ on := 13, ground := Ground.data }], guard := none }) rfl fun K' hK => step_valueW (by rfl) (.slice (some ⟨wr.heap.size, 0, none⟩) 1 1) (((World.drewN wr 1).alloc (.cells #[.string t] 9))) (by (go_simp; try rfl)) ?_
              refine hK _ _ ⟨bl_al s0, ?_⟩
              simp only [Act.put, List.setIfInBounds_toArray, List.set_cons_zero, List.set_cons_succ]
              have b1 : Below wr.heap.size wr ((World.drewN wr 1).alloc (.cells #[.string t] 9)) := bl_al (below_drewN (Below.refl wr.heap.size wr) 1)
              have hx1 : ((World.drewN wr 1).alloc (.cells #[.string t] 9)).heap[p]? = some (.cells #[.int .i64 r, .int .i64 l, .slice Av nv cv] 33 (0, 0)) := (b1.block _ (Array.getElem?_eq_some_iff.1 hx).1).trans hx
              have ow1 : ((World.drewN wr 1).alloc (.cells #[.string t] 9)).ownsRow wA.heap.size 9 1 (.slice Av nv cv) j ((sI xs Zs j).map Value.string) := World.ownsRow.alloc own (.cells #[.string t] 9)
              have ct : ((World.drewN wr 1).alloc (.cells #[.string t] 9)).cell? ⟨wr.heap.size, 0, none⟩ = some (.string t) := row_cell (heap_at (World.drewN wr 1) _ _ rfl)
              have hb1 : Below wA.heap.size wA ((World.drewN wr 1).alloc (.cells #[.string t] 9)) := bl_st b1 hbw
              have z1 : ((World.drewN wr 1).alloc (.cells #[.string t] 9)).heap.size = wr.heap.size + 1 := by simp [World.drewN]
              have cx1 : ((World.drewN wr 1).alloc (.cells #[.string t] 9)).cell? ⟨p, 2, none⟩ = some (.slice Av nv cv) := row_cell hx1
              have s1 : Below w.heap.size w ((World.drewN wr 1).alloc (.cells #[.string t] 9)) := bl_st hb1 (unhide BA)
              generalize ((World.drewN wr 1).alloc (.cells #[.string t] 9)) = x1 at *
              refine wpAnyH_one (i := 15) (by kernel_rfl) ?_
              refine wpOp_step (o := { dst := some 76, op := Op.call { callee := Callee.builtin Builtin.append, args := #[Operand.tmp 62, Operand.tmp 75], argTypes := #[31, 31] }, type := 31, pos := "l05_wire.go:107", after := #[{ on := 1, ground := Ground.data }, { on := 14, ground := Ground.data }], guard := none }) rfl fun K' hK => step_append_oneX _ (by rfl) _ _ (by rfl) wA.heap.size j _ (sI xs Zs j) (by rfl) ow1 wr.heap.size t (by rfl) ct (by have := unhide N64; omega) hb1.size ?_
              intro g2 c2 x2 own2 gr2 hg2
              have b2 := grown_below gr2 (fun k hk => (ow1.lt k hk).1) hb1.size
              have hb2 : Below wA.heap.size wA x2 := hb1.trans b2
              have hx2 : x2.heap[p]? = some (.cells #[.int .i64 r, .int .i64 l, .slice Av nv cv] 33 (0, 0)) := (gr2.block p (Array.getElem?_eq_some_iff.1 hx1).1 (fun e => hne e.symm)).trans hx1
              have hp2 : g2 ≠ p := by
                rcases hg2 with h | h
                · exact fun e => hne (by rw [h, e])
                · have := (Array.getElem?_eq_some_iff.1 hx).1
                  omega
              have dx : x2.cell? ⟨p, 2, none⟩ = some (.slice Av nv cv) := row_cell hx2
              have fx : x2.frozen? ⟨p, 2, none⟩ = false := row_free hx2
              refine hK _ _ ⟨bl_st hb2 (unhide BA), ?_⟩
              simp only [Act.put, List.setIfInBounds_toArray, List.set_cons_zero, List.set_cons_succ]
              refine wpAnyH_take (i := 16) (oi := { dst := some 77, op := Op.fieldAddr 33 (Operand.tmp 4) 2, type := 0, pos := "l05_wire.go:107", after := #[{ on := 0, ground := Ground.phase }, { on := 1, ground := Ground.phase }, { on := 2, ground := Ground.phase }, { on := 3, ground := Ground.phase }, { on := 4, ground := Ground.phase }, { on := 5, ground := Ground.phase }, { on := 6, ground := Ground.phase }, { on := 7, ground := Ground.phase }, { on := 8, ground := Ground.phase }, { on := 9, ground := Ground.phase }, { on := 10, ground := Ground.phase }, { on := 11, ground := Ground.phase }, { on := 12, ground := Ground.phase }, { on := 13, ground := Ground.phase }, { on := 14, ground := Ground.phase }, { on := 15, ground := Ground.phase }], guard := none }) (v := ?_) rfl (by kernel_rfl) (by kernel_rfl) (by kernel_rfl) (fun _ _ _ h => h) (Or.inl ⟨by rfl, ?_⟩) (bl_st hb2 (unhide BA)) ?_
              rotate_left
              · intro W hSw
                have cvw := unhide CVF W hSw
                go_simp
                try with_reducible rfl
              simp only [Act.put, List.setIfInBounds_toArray, List.set_cons_zero, List.set_cons_succ]
              refine wpAnyH_one (i := 17) (by kernel_rfl) ?_
              refine wpOp_step (o := { dst := none, op := Op.store 31 (Operand.tmp 77) (Operand.tmp 76), type := 0, pos := "l05_wire.go:107", after := #[{ on := 16, ground := Ground.data }, { on := 15, ground := Ground.data }, { on := 15, ground := Ground.chain }, { on := 0, ground := Ground.phase }, { on := 1, ground := Ground.phase }, { on := 2, ground := Ground.phase }, { on := 3, ground := Ground.phase }, { on := 4, ground := Ground.phase }, { on := 5, ground := Ground.phase }, { on := 6, ground := Ground.phase }, { on := 7, ground := Ground.phase }, { on := 8, ground := Ground.phase }, { on := 9, ground := Ground.phase }, { on := 10, ground := Ground.phase }, { on := 11, ground := Ground.phase }, { on := 12, ground := Ground.phase }, { on := 13, ground := Ground.phase }, { on := 14, ground := Ground.phase }, { on := 15, ground := Ground.phase }], guard := none }) rfl fun K' hK => step_skipW (by rfl) (x2.setCell ⟨p, 2, none⟩ (.slice (some ⟨g2, 0, none⟩) (j + 1) c2)) (by go_simp) ?_
              refine hK _ _ ⟨bl_st (below_setCell hb2 (unhide HP)) (unhide BA), ?_⟩
              try simp only [Act.put]
              refine wpAnyH_done (by kernel_rfl) ?_ _
              have X3 := hide (row_set (i := 2) (v := .slice (some ⟨g2, 0, none⟩) (j + 1) c2) hx2)
              have B3 := hide (below_setCell (i := 2) (v := .slice (some ⟨g2, 0, none⟩) (j + 1) c2) hb2 (unhide HP))
              have O3 := hide (own_onlyX own2 (only_setCell p 2 x2 (.slice (some ⟨g2, 0, none⟩) (j + 1) c2)) (fun e => hp2 (Option.some.inj e)))
              have P3 := hide hp2
              generalize x2.setCell ⟨p, 2, none⟩ (.slice (some ⟨g2, 0, none⟩) (j + 1) c2) = x3 at *
              clear b1 hx1 ow1 ct hb1 z1 cx1 s1 own2 gr2 hg2 b2 hb2 hx2 hp2 dx fx s0 cxw hx hbw own hne CVF slr
              go_wp2
              go_roundw
              case rel => exact ⟨j + 1, _, unhide HJ, by go_num, unhide X3, unhide B3, by rw [unhide E]; exact unhide O3, fun e => unhide P3 (Option.some.inj e)⟩
              case measure => have := unhide HJ; simp [intOf]; omega
            · refine wpOp_step (o := { dst := some 75, op := Op.buildSlice 31 1 #[(0, Operand.tmp 74)], type := 31, pos := "l05_wire.go:107", after := #[{ on := 13, ground := Ground.data }], guard := none }) rfl fun K' hK => step_valueW (by rfl) (.slice (some ⟨wr.heap.size, 0, none⟩) 1 1) (((World.drewN wr 1).alloc (.cells #[.string t] 9))) (by (go_simp; try rfl)) ?_
              refine hK _ _ ⟨bl_al s0, ?_⟩
              simp only [Act.put, List.setIfInBounds_toArray, List.set_cons_zero, List.set_cons_succ]
              have b1 : Below wr.heap.size wr ((World.drewN wr 1).alloc (.cells #[.string t] 9)) := bl_al (below_drewN (Below.refl wr.heap.size wr) 1)
              have hx1 : ((World.drewN wr 1).alloc (.cells #[.string t] 9)).heap[p]? = some (.cells #[.int .i64 r, .int .i64 l, .slice Av nv cv] 33 (0, 0)) := (b1.block _ (Array.getElem?_eq_some_iff.1 hx).1).trans hx
              have ow1 : ((World.drewN wr 1).alloc (.cells #[.string t] 9)).ownsRow wA.heap.size 9 1 (.slice Av nv cv) j ((sI xs Zs j).map Value.string) := World.ownsRow.alloc own (.cells #[.string t] 9)
              have ct : ((World.drewN wr 1).alloc (.cells #[.string t] 9)).cell? ⟨wr.heap.size, 0, none⟩ = some (.string t) := row_cell (heap_at (World.drewN wr 1) _ _ rfl)
              have hb1 : Below wA.heap.size wA ((World.drewN wr 1).alloc (.cells #[.string t] 9)) := bl_st b1 hbw
              have z1 : ((World.drewN wr 1).alloc (.cells #[.string t] 9)).heap.size = wr.heap.size + 1 := by simp [World.drewN]
              have cx1 : ((World.drewN wr 1).alloc (.cells #[.string t] 9)).cell? ⟨p, 2, none⟩ = some (.slice Av nv cv) := row_cell hx1
              have s1 : Below w.heap.size w ((World.drewN wr 1).alloc (.cells #[.string t] 9)) := bl_st hb1 (unhide BA)
              generalize ((World.drewN wr 1).alloc (.cells #[.string t] 9)) = x1 at *
              refine wpAnyH_one (i := 1) (by kernel_rfl) ?_
              refine wpOp_step (o := { dst := some 62, op := Op.load 31 (Operand.tmp 61), type := 31, pos := "l05_wire.go:107", after := #[{ on := 0, ground := Ground.data }], guard := none }) rfl fun K' hK => step_valueW (by rfl) (.slice Av nv cv) (x1) (by go_simp) ?_
              refine hK _ _ ⟨s1, ?_⟩
              simp only [Act.put, List.setIfInBounds_toArray, List.set_cons_zero, List.set_cons_succ]
              refine wpAnyH_one (i := 15) (by kernel_rfl) ?_
              refine wpOp_step (o := { dst := some 76, op := Op.call { callee := Callee.builtin Builtin.append, args := #[Operand.tmp 62, Operand.tmp 75], argTypes := #[31, 31] }, type := 31, pos := "l05_wire.go:107", after := #[{ on := 1, ground := Ground.data }, { on := 14, ground := Ground.data }], guard := none }) rfl fun K' hK => step_append_oneX _ (by rfl) _ _ (by rfl) wA.heap.size j _ (sI xs Zs j) (by rfl) ow1 wr.heap.size t (by rfl) ct (by have := unhide N64; omega) hb1.size ?_
              intro g2 c2 x2 own2 gr2 hg2
              have b2 := grown_below gr2 (fun k hk => (ow1.lt k hk).1) hb1.size
              have hb2 : Below wA.heap.size wA x2 := hb1.trans b2
              have hx2 : x2.heap[p]? = some (.cells #[.int .i64 r, .int .i64 l, .slice Av nv cv] 33 (0, 0)) := (gr2.block p (Array.getElem?_eq_some_iff.1 hx1).1 (fun e => hne e.symm)).trans hx1
              have hp2 : g2 ≠ p := by
                rcases hg2 with h | h
                · exact fun e => hne (by rw [h, e])
                · have := (Array.getElem?_eq_some_iff.1 hx).1
                  omega
              have dx : x2.cell? ⟨p, 2, none⟩ = some (.slice Av nv cv) := row_cell hx2
              have fx : x2.frozen? ⟨p, 2, none⟩ = false := row_free hx2
              refine hK _ _ ⟨bl_st hb2 (unhide BA), ?_⟩
              simp only [Act.put, List.setIfInBounds_toArray, List.set_cons_zero, List.set_cons_succ]
              refine wpAnyH_take (i := 16) (oi := { dst := some 77, op := Op.fieldAddr 33 (Operand.tmp 4) 2, type := 0, pos := "l05_wire.go:107", after := #[{ on := 0, ground := Ground.phase }, { on := 1, ground := Ground.phase }, { on := 2, ground := Ground.phase }, { on := 3, ground := Ground.phase }, { on := 4, ground := Ground.phase }, { on := 5, ground := Ground.phase }, { on := 6, ground := Ground.phase }, { on := 7, ground := Ground.phase }, { on := 8, ground := Ground.phase }, { on := 9, ground := Ground.phase }, { on := 10, ground := Ground.phase }, { on := 11, ground := Ground.phase }, { on := 12, ground := Ground.phase }, { on := 13, ground := Ground.phase }, { on := 14, ground := Ground.phase }, { on := 15, ground := Ground.phase }], guard := none }) (v := ?_) rfl (by kernel_rfl) (by kernel_rfl) (by kernel_rfl) (fun _ _ _ h => h) (Or.inl ⟨by rfl, ?_⟩) (bl_st hb2 (unhide BA)) ?_
              rotate_left
              · intro W hSw
                have cvw := unhide CVF W hSw
                go_simp
                try with_reducible rfl
              simp only [Act.put, List.setIfInBounds_toArray, List.set_cons_zero, List.set_cons_succ]
              refine wpAnyH_one (i := 17) (by kernel_rfl) ?_
              refine wpOp_step (o := { dst := none, op := Op.store 31 (Operand.tmp 77) (Operand.tmp 76), type := 0, pos := "l05_wire.go:107", after := #[{ on := 16, ground := Ground.data }, { on := 15, ground := Ground.data }, { on := 15, ground := Ground.chain }, { on := 0, ground := Ground.phase }, { on := 1, ground := Ground.phase }, { on := 2, ground := Ground.phase }, { on := 3, ground := Ground.phase }, { on := 4, ground := Ground.phase }, { on := 5, ground := Ground.phase }, { on := 6, ground := Ground.phase }, { on := 7, ground := Ground.phase }, { on := 8, ground := Ground.phase }, { on := 9, ground := Ground.phase }, { on := 10, ground := Ground.phase }, { on := 11, ground := Ground.phase }, { on := 12, ground := Ground.phase }, { on := 13, ground := Ground.phase }, { on := 14, ground := Ground.phase }, { on := 15, ground := Ground.phase }], guard := none }) rfl fun K' hK => step_skipW (by rfl) (x2.setCell ⟨p, 2, none⟩ (.slice (some ⟨g2, 0, none⟩) (j + 1) c2)) (by go_simp) ?_
              refine hK _ _ ⟨bl_st (below_setCell hb2 (unhide HP)) (unhide BA), ?_⟩
              try simp only [Act.put]
              refine wpAnyH_done (by kernel_rfl) ?_ _
              have X3 := hide (row_set (i := 2) (v := .slice (some ⟨g2, 0, none⟩) (j + 1) c2) hx2)
              have B3 := hide (below_setCell (i := 2) (v := .slice (some ⟨g2, 0, none⟩) (j + 1) c2) hb2 (unhide HP))
              have O3 := hide (own_onlyX own2 (only_setCell p 2 x2 (.slice (some ⟨g2, 0, none⟩) (j + 1) c2)) (fun e => hp2 (Option.some.inj e)))
              have P3 := hide hp2
              generalize x2.setCell ⟨p, 2, none⟩ (.slice (some ⟨g2, 0, none⟩) (j + 1) c2) = x3 at *
              clear b1 hx1 ow1 ct hb1 z1 cx1 s1 own2 gr2 hg2 b2 hb2 hx2 hp2 dx fx s0 cxw hx hbw own hne CVF slr
              go_wp2
              go_roundw
              case rel => exact ⟨j + 1, _, unhide HJ, by go_num, unhide X3, unhide B3, by rw [unhide E]; exact unhide O3, fun e => unhide P3 (Option.some.inj e)⟩
              case measure => have := unhide HJ; simp [intOf]; omega
          · obtain rfl : j = N := by omega
            have ny : wr.heap[w.heap.size]? = some (.cells #[.int .i64 0, .int .i64 0, .slice none 0 0] 33 (0, 0)) := (hbw.block _ (unhide LA)).trans (unhide N0)
            have d0 : wr.cell? ⟨p, 0, none⟩ = some (.int .i64 r) := row_cell hx
            have d1 : wr.cell? ⟨p, 1, none⟩ = some (.int .i64 l) := row_cell hx
            have d2 : wr.cell? ⟨p, 2, none⟩ = some (.slice Av nv cv) := row_cell hx
            have os := own_strs own
            have h31 := hide (lb28 r l (.slice Av nv cv) (sI xs Zs j) wr os.strs (fun t ht => by
              unfold sI at ht
              obtain ⟨i, _, rfl⟩ := List.mem_map.1 ht
              rw [strOfNums_size]
              have h1 : (cut xs (8 + i * Zs) Zs).length ≤ Zs := by unfold cut; rw [List.length_take]; omega
              have h2 := unhide Z400
              unfold maxLen
              omega) (by rw [sI_len]; have := unhide N64; omega))
            have NYR := hide ny
            have OS := hide os
            have BW := hide (bl_st hbw (unhide BA))
            have BWA := hide hbw
            clear hx hbw own hne ny os hlt
            have SP : Hid (spB xs = if okB r l (sI xs Zs j) = true then ((r, l, sI xs Zs j), 0) else ((0, 0, []), 3)) := hide (by
              unfold spB
              rw [if_neg (by have := unhide H6; omega), unhide HsR, unhide HsL, unhide HsN, unhide HsZ]
              by_cases hk : okB r l (sI xs Zs j) = true
              · rw [if_pos hk, if_pos ⟨unhide H8, unhide HF, hk⟩]
              · rw [if_neg hk, if_neg (fun hh => hk hh.2.2)])
            cases hok : okB r l (sI xs Zs j)
            · rw [hok] at h31 SP
              have e := (unhide HSP).symm.trans ((unhide SP).trans (if_neg (by simp)))
              simp only [Prod.mk.injEq] at e
              obtain ⟨⟨rfl, rfl, rfl⟩, rfl⟩ := e
              clear hok SP HSP
              go_wp2_with fail
              refine (unhide h31).mono ?_
              rintro e wD ⟨rfl, b9⟩
              have ny := (b9.block _ (Array.getElem?_eq_some_iff.1 (unhide NYR)).1).trans (unhide NYR)
              have p0 : wD.cell? ⟨w.heap.size, 0, none⟩ = some (.int .i64 0) := row_cell ny
              have p1 : wD.cell? ⟨w.heap.size, 1, none⟩ = some (.int .i64 0) := row_cell ny
              have p2 : wD.cell? ⟨w.heap.size, 2, none⟩ = some (.slice none 0 0) := row_cell ny
              have y0 : wD.frozen? ⟨w.heap.size, 0, none⟩ = false := row_free ny
              have y1 : wD.frozen? ⟨w.heap.size, 1, none⟩ = false := row_free ny
              have y2 : wD.frozen? ⟨w.heap.size, 2, none⟩ = false := row_free ny
              have NYD := hide ny
              have B9 := hide (bl_st b9 (unhide BW))
              clear b9 ny h31
              go_wp2
              refine bodyPost_ret (v := .tuple #[btV 0 0 (.slice none 0 0), .int .i64 3]) (results_tmp_row rfl _ _ w.heap.size 33 _ (0, 0) _ _ rfl rfl (row_set (i := 2) (v := .slice none 0 0) (row_set (i := 1) (v := .int .i64 0) (row_set (i := 0) (v := .int .i64 0) (unhide NYD)))) Tryd.underlying33 rfl (by kernel_rfl)) rfl ⟨_, rfl, .inl ⟨rfl, rfl⟩, ?_⟩
              exact below_setCell (below_setCell (below_setCell (unhide B9) (Nat.le_refl _)) (Nat.le_refl _)) (Nat.le_refl _)
            · rw [hok] at h31 SP
              have e := (unhide HSP).symm.trans ((unhide SP).trans (if_pos rfl))
              simp only [Prod.mk.injEq] at e
              obtain ⟨⟨rfl, rfl, rfl⟩, rfl⟩ := e
              clear hok SP HSP
              go_wp2_with fail
              refine (unhide h31).mono ?_
              rintro e wD ⟨rfl, b9⟩
              have ny := (b9.block _ (Array.getElem?_eq_some_iff.1 (unhide NYR)).1).trans (unhide NYR)
              have p0 : wD.cell? ⟨w.heap.size, 0, none⟩ = some (.int .i64 0) := row_cell ny
              have p1 : wD.cell? ⟨w.heap.size, 1, none⟩ = some (.int .i64 0) := row_cell ny
              have p2 : wD.cell? ⟨w.heap.size, 2, none⟩ = some (.slice none 0 0) := row_cell ny
              have y0 : wD.frozen? ⟨w.heap.size, 0, none⟩ = false := row_free ny
              have y1 : wD.frozen? ⟨w.heap.size, 1, none⟩ = false := row_free ny
              have y2 : wD.frozen? ⟨w.heap.size, 2, none⟩ = false := row_free ny
              have e0 : wD.cell? ⟨p, 0, none⟩ = some (.int .i64 r') := (cell_below b9 (cell_ltW d0)).trans d0
              have e1 : wD.cell? ⟨p, 1, none⟩ = some (.int .i64 l') := (cell_below b9 (cell_ltW d0)).trans d1
              have e2 : wD.cell? ⟨p, 2, none⟩ = some (.slice Av nv cv) := (cell_below b9 (cell_ltW d0)).trans d2
              have NYD := hide ny
              have B9 := hide (bl_st b9 (unhide BW))
              have OS9 := hide (((unhide OS).below b9).wide (Nat.le_of_lt (unhide LA)) b9.size)
              have LW9 := hide (unhide LA)
              have OSL := hide (unhide OS)
              have OB9 := hide ((unhide OS).below b9)
              have SZ9 := hide b9.size
              clear b9 ny h31
              go_wp2
              refine bodyPost_ret (v := .tuple #[btV r' l' (.slice Av nv cv), .int .i64 0]) (results_tmp_row rfl _ _ w.heap.size 33 _ (0, 0) _ _ rfl rfl (row_set (i := 2) (v := .slice Av nv cv) (row_set (i := 1) (v := .int .i64 l') (row_set (i := 0) (v := .int .i64 r') (unhide NYD)))) Tryd.underlying33 rfl (by kernel_rfl)) rfl ⟨_, rfl, ?_, ?_⟩
              · refine ((((unhide OB9).lone (lone_setCell w.heap.size 0 _ _) (unhide LW9)).lone (lone_setCell w.heap.size 1 _ _) (unhide LW9)).lone (lone_setCell w.heap.size 2 _ _) (unhide LW9)).wide (Nat.le_of_lt (unhide LW9)) ?_
                rw [size_set, size_set, size_set]
                exact unhide SZ9
              · exact below_setCell (below_setCell (below_setCell (unhide B9) (Nat.le_refl _)) (Nat.le_refl _)) (Nat.le_refl _)
  · have u3 : ¬ ((xs.length : Int) = 8 + (NZ : Int)) := by omega
    have e := (unhide HSP).symm.trans (spB_bad (unhide H6) (by unfold sF; rw [unhide HsN, unhide HsZ]; omega))
    simp only [Prod.mk.injEq] at e
    obtain ⟨⟨rfl, rfl, rfl⟩, rfl⟩ := e
    clear hN hZ hE
    go_wp2
    refine bodyPost_ret (v := .tuple #[btV 0 0 (.slice none 0 0), .int .i64 3]) (results_tmp_row rfl _ _ w.heap.size 33 _ (0, 0) _ _ rfl rfl (row_set (i := 2) (v := .slice none 0 0) (row_set (i := 1) (v := .int .i64 0) (row_set (i := 0) (v := .int .i64 0) (unhide NY)))) Tryd.underlying33 rfl (by kernel_rfl)) rfl ⟨_, rfl, .inl ⟨rfl, rfl⟩, ?_⟩
    exact below_setCell (below_setCell (below_setCell (unhide BB) (Nat.le_refl _)) (Nat.le_refl _)) (Nat.le_refl _)
theorem rb12 (v : Value) (xs : List Int) (w : World) (hv : bytesC w v xs) :
    Calls Tryd.prog 12 #[v] w fun e w' => ∃ u, e = .returned (.tuple #[btV (spB xs).1.1 (spB xs).1.2.1 u, .int .i64 (spB xs).2]) ∧ ownS w.heap.size w'.heap.size w' u (spB xs).1.2.2 ∧ Below w.heap.size w w' := by
  obtain ⟨A, cap, rfl, hc, hB, hr⟩ := hv
  by_cases h6 : 65536 < xs.length
  · have e : spB xs = ((0, 0, []), 2) := by unfold spB; rw [if_pos h6]
    rw [e]
    exact rb_out xs.length cap A 2 (.inl ⟨h6, rfl⟩) w
  · by_cases h8 : xs.length < 8
    · have e : spB xs = ((0, 0, []), 3) := by
        unfold spB
        rw [if_neg h6, if_neg (fun h => by omega)]
      rw [e]
      exact rb_out xs.length cap A 3 (.inr ⟨h8, rfl⟩) w
    · exact rb_main A cap xs w ⟨A, cap, rfl, hc, hB, hr⟩ (by omega) (by omega)
end Go.Proofs.YtgdohkemamlnhaaDoor
