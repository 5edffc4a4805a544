/- A console, by the program: its answer to a text. -/
import Derived.Test.YtbkcgkffafjbgaaGreatDoorGk
import Derived.Test.YtbkcgkffafjbgaaGreatDoorGb
import Derived.Test.YtbkcgkffafjbgaaGreatDoorLate
import Derived.OrdersHeld
import Derived.Test.YtbkcgkffafjbgaaGreatDoorGn
import Derived.Test.YtbkcgkffafjbgaaGreatDoorGl
/- What a console has told, as a text. -/
namespace Go.Proofs.YtbkcgkffafjbgaaGreatDoor
open Go.RowKit
set_option maxHeartbeats 4000000
set_option maxRecDepth 100000
set_option linter.unusedVariables false
theorem str_nil (base c g : Nat) (p : Value) (w : World) (h : conB c g p (.slice none 0 0) w) :
    Calls Tryz.prog 19 #[selfP c] w fun e w' => e = .returned (.string (bs [])) ∧ Below base w w' := by
  have hUS : ∀ (W : World) (q : Option Addr), (Builtin.unsafeString_ #[71, 3] 9 #[.pointer q, .int .i64 0]).run Tryz.prog W = .ok (.string .empty) W := fun W q => Lib.run_unsafeString_none W _ _ _ q
  have hSD : ∀ W : World, (Builtin.unsafeSliceData_ #[22] 71 #[.slice none 0 0]).run Tryz.prog W = .ok (.pointer none) W := fun _ => rfl
  have C2 := h.c2
  clear h
  go_enter Tryz.func19, Tryz.ntmps19
  go_wp2_with fail
  refine wp_region_held (S := fun W => W.cell? ⟨c, 2, none⟩ = some (.slice none 0 0)) (by kernel_rfl) ?_
  have S2 : ({ w with drawn := w.drawn + 1 } : World).cell? ⟨c, 2, none⟩ = some (.slice none 0 0) := C2
  refine wpAnyH_take (i := 0) (oi := { dst := some 3, op := Op.move (Operand.tmp 0), type := 43, pos := "builder.go:47", after := #[], guard := none }) (v := ?_) rfl (by kernel_rfl) (by kernel_rfl) (by kernel_rfl) (fun _ _ _ h => h) (Or.inl ⟨by rfl, ?_⟩) S2 ?_
  rotate_left
  · intro W hSw
    have s0 := hSw
    go_simp
    try with_reducible rfl
  simp only [Act.put, List.setIfInBounds_toArray, List.set_cons_zero, List.set_cons_succ]
  refine wpAnyH_take (i := 1) (oi := { dst := some 4, op := Op.nilCheck (Operand.tmp 3), type := 0, pos := "builder.go:47", after := #[{ on := 0, ground := Ground.data }], guard := none }) (v := ?_) rfl (by kernel_rfl) (by kernel_rfl) (by kernel_rfl) (fun _ _ _ h => h) (Or.inl ⟨by rfl, ?_⟩) S2 ?_
  rotate_left
  · intro W hSw
    have s0 := hSw
    go_simp
    try with_reducible rfl
  simp only [Act.put, List.setIfInBounds_toArray, List.set_cons_zero, List.set_cons_succ]
  refine wpAnyH_take (i := 2) (oi := { dst := some 5, op := Op.fieldAddr 45 (Operand.tmp 4) 1, type := 0, pos := "builder.go:47", after := #[{ on := 1, ground := Ground.data }], guard := none }) (v := ?_) rfl (by kernel_rfl) (by kernel_rfl) (by kernel_rfl) (fun _ _ _ h => h) (Or.inl ⟨by rfl, ?_⟩) S2 ?_
  rotate_left
  · intro W hSw
    have s0 := hSw
    go_simp
    try with_reducible rfl
  simp only [Act.put, List.setIfInBounds_toArray, List.set_cons_zero, List.set_cons_succ]
  refine wpAnyH_take (i := 3) (oi := { dst := some 6, op := Op.load 22 (Operand.tmp 5), type := 22, pos := "builder.go:47", after := #[{ on := 2, ground := Ground.data }], guard := none }) (v := ?_) rfl (by kernel_rfl) (by kernel_rfl) (by kernel_rfl) (fun _ _ _ h => h) (Or.inl ⟨by rfl, ?_⟩) S2 ?_
  rotate_left
  · intro W hSw
    have s0 := hSw
    go_simp
    try with_reducible rfl
  simp only [Act.put, List.setIfInBounds_toArray, List.set_cons_zero, List.set_cons_succ]
  refine wpAnyH_take (i := 4) (oi := { dst := some 7, op := Op.call { callee := Callee.builtin Builtin.unsafeSliceData, args := #[Operand.tmp 6], argTypes := #[22] }, type := 71, pos := "builder.go:47", after := #[{ on := 3, ground := Ground.data }], guard := none }) (v := ?_) rfl (by kernel_rfl) (by kernel_rfl) (by kernel_rfl) (fun _ _ _ h => h) (Or.inl ⟨by rfl, ?_⟩) S2 ?_
  rotate_left
  · intro W hSw
    have s0 := hSw
    go_simp
    try with_reducible rfl
  simp only [Act.put, List.setIfInBounds_toArray, List.set_cons_zero, List.set_cons_succ]
  refine wpAnyH_take (i := 5) (oi := { dst := some 8, op := Op.move (Operand.tmp 0), type := 43, pos := "builder.go:47", after := #[], guard := none }) (v := ?_) rfl (by kernel_rfl) (by kernel_rfl) (by kernel_rfl) (fun _ _ _ h => h) (Or.inl ⟨by rfl, ?_⟩) S2 ?_
  rotate_left
  · intro W hSw
    have s0 := hSw
    go_simp
    try with_reducible rfl
  simp only [Act.put, List.setIfInBounds_toArray, List.set_cons_zero, List.set_cons_succ]
  refine wpAnyH_take (i := 6) (oi := { dst := some 9, op := Op.nilCheck (Operand.tmp 8), type := 0, pos := "builder.go:47", after := #[{ on := 5, ground := Ground.data }], guard := none }) (v := ?_) rfl (by kernel_rfl) (by kernel_rfl) (by kernel_rfl) (fun _ _ _ h => h) (Or.inl ⟨by rfl, ?_⟩) S2 ?_
  rotate_left
  · intro W hSw
    have s0 := hSw
    go_simp
    try with_reducible rfl
  simp only [Act.put, List.setIfInBounds_toArray, List.set_cons_zero, List.set_cons_succ]
  refine wpAnyH_take (i := 7) (oi := { dst := some 10, op := Op.fieldAddr 45 (Operand.tmp 9) 1, type := 0, pos := "builder.go:47", after := #[{ on := 6, ground := Ground.data }], guard := none }) (v := ?_) rfl (by kernel_rfl) (by kernel_rfl) (by kernel_rfl) (fun _ _ _ h => h) (Or.inl ⟨by rfl, ?_⟩) S2 ?_
  rotate_left
  · intro W hSw
    have s0 := hSw
    go_simp
    try with_reducible rfl
  simp only [Act.put, List.setIfInBounds_toArray, List.set_cons_zero, List.set_cons_succ]
  refine wpAnyH_take (i := 8) (oi := { dst := some 11, op := Op.load 22 (Operand.tmp 10), type := 22, pos := "builder.go:47", after := #[{ on := 7, ground := Ground.data }], guard := none }) (v := ?_) rfl (by kernel_rfl) (by kernel_rfl) (by kernel_rfl) (fun _ _ _ h => h) (Or.inl ⟨by rfl, ?_⟩) S2 ?_
  rotate_left
  · intro W hSw
    have s0 := hSw
    go_simp
    try with_reducible rfl
  simp only [Act.put, List.setIfInBounds_toArray, List.set_cons_zero, List.set_cons_succ]
  refine wpAnyH_take (i := 9) (oi := { dst := some 12, op := Op.call { callee := Callee.builtin Builtin.len, args := #[Operand.tmp 11], argTypes := #[22] }, type := 3, pos := "builder.go:47", after := #[{ on := 8, ground := Ground.data }], guard := none }) (v := ?_) rfl (by kernel_rfl) (by kernel_rfl) (by kernel_rfl) (fun _ _ _ h => h) (Or.inl ⟨by rfl, ?_⟩) S2 ?_
  rotate_left
  · intro W hSw
    have s0 := hSw
    go_simp
    try with_reducible rfl
  simp only [Act.put, List.setIfInBounds_toArray, List.set_cons_zero, List.set_cons_succ]
  have S3 := S2
  refine wpAnyH_one (i := 10) (by kernel_rfl) ?_
  refine wpOp_step (o := { dst := some 13, op := Op.call { callee := Callee.builtin Builtin.unsafeString, args := #[Operand.tmp 7, Operand.tmp 12], argTypes := #[71, 3] }, type := 9, pos := "builder.go:47", after := #[{ on := 4, ground := Ground.data }, { on := 9, ground := Ground.data }], guard := none }) rfl fun K' hK => step_valueW (by rfl) (.string .empty) (({ w with drawn := w.drawn + 1 } : World)) (by go_simp) ?_
  refine hK _ _ ⟨S3, ?_⟩
  simp only [Act.put, List.setIfInBounds_toArray, List.set_cons_zero, List.set_cons_succ]
  refine wpAnyH_take (i := 11) (oi := { dst := some 2, op := Op.assign (Operand.tmp 13), type := 9, pos := "builder.go:47", after := #[{ on := 10, ground := Ground.data }, { on := 0, ground := Ground.phase }, { on := 1, ground := Ground.phase }, { on := 2, ground := Ground.phase }, { on := 3, ground := Ground.phase }, { on := 4, ground := Ground.phase }, { on := 5, ground := Ground.phase }, { on := 6, ground := Ground.phase }, { on := 7, ground := Ground.phase }, { on := 8, ground := Ground.phase }, { on := 9, ground := Ground.phase }, { on := 10, ground := Ground.phase }], guard := none }) (v := ?_) rfl (by kernel_rfl) (by kernel_rfl) (by kernel_rfl) (fun _ _ _ h => h) (Or.inl ⟨by rfl, ?_⟩) S3 ?_
  rotate_left
  · intro W hSw
    go_simp
    try with_reducible rfl
  simp only [Act.put, List.setIfInBounds_toArray, List.set_cons_zero, List.set_cons_succ]
  refine wpAnyH_done (by kernel_rfl) ?_ _
  go_wp2
  go_ret
  exact ⟨rfl, Below.drew (Below.refl base w)⟩
theorem str_some (base c g gg cap : Nat) (p : Value) (l : List UInt8) (cur : Array Value) (w : World) (h : conB c g p (.slice (some ⟨gg, 0, none⟩) l.length cap) w) (h0 : l ≠ []) (hb : base ≤ gg) (hg : w.heap[gg]? = some (.cells cur 5 (0, 0)))
    (hcb : c < base) (hnc : l.length ≤ cap) (hcm : cap ≤ maxLen) (hcs : cur.size = cap * 1) (hown : w.ownsRow base 5 1 (.slice (some ⟨gg, 0, none⟩) l.length cap) l.length (Lib.byteCells l)) :
    Calls Tryz.prog 19 #[selfP c] w fun e w' => e = .returned (.string (bs l)) ∧ Below base w w' := by
  have hl0 : l.length ≠ 0 := by simpa using h0
  have C2 := h.c2
  have hSD : ∀ W : World, (Builtin.unsafeSliceData_ #[22] 71 #[.slice (some ⟨gg, 0, none⟩) l.length cap]).run Tryz.prog W = .ok (.pointer (some ⟨gg, 0, none⟩)) W :=
    fun W => Lib.run_unsafeSliceData_row _ _ _ _ _ _ (by omega)
  have hUS : (Builtin.unsafeString_ #[71, 3] 9 #[.pointer (some ⟨gg, 0, none⟩), .int .i64 l.length]).run Tryz.prog w.drew = .ok (.string (bs l)) (w.drew.freeze ⟨gg, 0, none⟩ l.length) := by
    refine Lib.run_unsafeString_row w.drew 71 3 9 5 Tryz.underlying71 cells5 gg cur.size (by have hg' : w.drew.heap[gg]? = some (.cells cur 5 (0, 0)) := hg; simp [World.shape?, hg']) l h0 (by omega) (by unfold maxLen at hcm; omega) ?_
    intro j x hx
    have := hown.cells (g := gg) rfl j (.int .u8 x.toNat) (by simp [Lib.byteCells, hx])
    exact this
  have m0 : (l.length : Int) ≤ 9223372036854775807 := by unfold maxLen at hcm; omega
  have HB := hide hb
  have HCb := hide hcb
  clear h hcb hg hcs hown hnc hcm hb
  go_enter Tryz.func19, Tryz.ntmps19
  go_wp2_with fail
  refine wp_region_held (S := fun W => W.cell? ⟨c, 2, none⟩ = some (.slice (some ⟨gg, 0, none⟩) l.length cap)) (by kernel_rfl) ?_
  have S2 : ({ w with drawn := w.drawn + 1 } : World).cell? ⟨c, 2, none⟩ = some (.slice (some ⟨gg, 0, none⟩) l.length cap) := C2
  refine wpAnyH_take (i := 0) (oi := { dst := some 3, op := Op.move (Operand.tmp 0), type := 43, pos := "builder.go:47", after := #[], guard := none }) (v := ?_) rfl (by kernel_rfl) (by kernel_rfl) (by kernel_rfl) (fun _ _ _ h => h) (Or.inl ⟨by rfl, ?_⟩) S2 ?_
  rotate_left
  · intro W hSw
    have s0 := hSw
    go_simp
    try with_reducible rfl
  simp only [Act.put, List.setIfInBounds_toArray, List.set_cons_zero, List.set_cons_succ]
  refine wpAnyH_take (i := 1) (oi := { dst := some 4, op := Op.nilCheck (Operand.tmp 3), type := 0, pos := "builder.go:47", after := #[{ on := 0, ground := Ground.data }], guard := none }) (v := ?_) rfl (by kernel_rfl) (by kernel_rfl) (by kernel_rfl) (fun _ _ _ h => h) (Or.inl ⟨by rfl, ?_⟩) S2 ?_
  rotate_left
  · intro W hSw
    have s0 := hSw
    go_simp
    try with_reducible rfl
  simp only [Act.put, List.setIfInBounds_toArray, List.set_cons_zero, List.set_cons_succ]
  refine wpAnyH_take (i := 2) (oi := { dst := some 5, op := Op.fieldAddr 45 (Operand.tmp 4) 1, type := 0, pos := "builder.go:47", after := #[{ on := 1, ground := Ground.data }], guard := none }) (v := ?_) rfl (by kernel_rfl) (by kernel_rfl) (by kernel_rfl) (fun _ _ _ h => h) (Or.inl ⟨by rfl, ?_⟩) S2 ?_
  rotate_left
  · intro W hSw
    have s0 := hSw
    go_simp
    try with_reducible rfl
  simp only [Act.put, List.setIfInBounds_toArray, List.set_cons_zero, List.set_cons_succ]
  refine wpAnyH_take (i := 3) (oi := { dst := some 6, op := Op.load 22 (Operand.tmp 5), type := 22, pos := "builder.go:47", after := #[{ on := 2, ground := Ground.data }], guard := none }) (v := ?_) rfl (by kernel_rfl) (by kernel_rfl) (by kernel_rfl) (fun _ _ _ h => h) (Or.inl ⟨by rfl, ?_⟩) S2 ?_
  rotate_left
  · intro W hSw
    have s0 := hSw
    go_simp
    try with_reducible rfl
  simp only [Act.put, List.setIfInBounds_toArray, List.set_cons_zero, List.set_cons_succ]
  refine wpAnyH_take (i := 4) (oi := { dst := some 7, op := Op.call { callee := Callee.builtin Builtin.unsafeSliceData, args := #[Operand.tmp 6], argTypes := #[22] }, type := 71, pos := "builder.go:47", after := #[{ on := 3, ground := Ground.data }], guard := none }) (v := ?_) rfl (by kernel_rfl) (by kernel_rfl) (by kernel_rfl) (fun _ _ _ h => h) (Or.inl ⟨by rfl, ?_⟩) S2 ?_
  rotate_left
  · intro W hSw
    have s0 := hSw
    go_simp
    try with_reducible rfl
  simp only [Act.put, List.setIfInBounds_toArray, List.set_cons_zero, List.set_cons_succ]
  refine wpAnyH_take (i := 5) (oi := { dst := some 8, op := Op.move (Operand.tmp 0), type := 43, pos := "builder.go:47", after := #[], guard := none }) (v := ?_) rfl (by kernel_rfl) (by kernel_rfl) (by kernel_rfl) (fun _ _ _ h => h) (Or.inl ⟨by rfl, ?_⟩) S2 ?_
  rotate_left
  · intro W hSw
    have s0 := hSw
    go_simp
    try with_reducible rfl
  simp only [Act.put, List.setIfInBounds_toArray, List.set_cons_zero, List.set_cons_succ]
  refine wpAnyH_take (i := 6) (oi := { dst := some 9, op := Op.nilCheck (Operand.tmp 8), type := 0, pos := "builder.go:47", after := #[{ on := 5, ground := Ground.data }], guard := none }) (v := ?_) rfl (by kernel_rfl) (by kernel_rfl) (by kernel_rfl) (fun _ _ _ h => h) (Or.inl ⟨by rfl, ?_⟩) S2 ?_
  rotate_left
  · intro W hSw
    have s0 := hSw
    go_simp
    try with_reducible rfl
  simp only [Act.put, List.setIfInBounds_toArray, List.set_cons_zero, List.set_cons_succ]
  refine wpAnyH_take (i := 7) (oi := { dst := some 10, op := Op.fieldAddr 45 (Operand.tmp 9) 1, type := 0, pos := "builder.go:47", after := #[{ on := 6, ground := Ground.data }], guard := none }) (v := ?_) rfl (by kernel_rfl) (by kernel_rfl) (by kernel_rfl) (fun _ _ _ h => h) (Or.inl ⟨by rfl, ?_⟩) S2 ?_
  rotate_left
  · intro W hSw
    have s0 := hSw
    go_simp
    try with_reducible rfl
  simp only [Act.put, List.setIfInBounds_toArray, List.set_cons_zero, List.set_cons_succ]
  refine wpAnyH_take (i := 8) (oi := { dst := some 11, op := Op.load 22 (Operand.tmp 10), type := 22, pos := "builder.go:47", after := #[{ on := 7, ground := Ground.data }], guard := none }) (v := ?_) rfl (by kernel_rfl) (by kernel_rfl) (by kernel_rfl) (fun _ _ _ h => h) (Or.inl ⟨by rfl, ?_⟩) S2 ?_
  rotate_left
  · intro W hSw
    have s0 := hSw
    go_simp
    try with_reducible rfl
  simp only [Act.put, List.setIfInBounds_toArray, List.set_cons_zero, List.set_cons_succ]
  refine wpAnyH_take (i := 9) (oi := { dst := some 12, op := Op.call { callee := Callee.builtin Builtin.len, args := #[Operand.tmp 11], argTypes := #[22] }, type := 3, pos := "builder.go:47", after := #[{ on := 8, ground := Ground.data }], guard := none }) (v := ?_) rfl (by kernel_rfl) (by kernel_rfl) (by kernel_rfl) (fun _ _ _ h => h) (Or.inl ⟨by rfl, ?_⟩) S2 ?_
  rotate_left
  · intro W hSw
    have s0 := hSw
    go_simp
    try with_reducible rfl
  simp only [Act.put, List.setIfInBounds_toArray, List.set_cons_zero, List.set_cons_succ]
  have S3 : (w.drew.freeze ⟨gg, 0, none⟩ l.length).cell? ⟨c, 2, none⟩ = some (.slice (some ⟨gg, 0, none⟩) l.length cap) := (World.cell?_of_block ((Lib.below_freeze (Below.drew (Below.refl base w)) (p := ⟨gg, 0, none⟩) (unhide HB) l.length).block c (unhide HCb))).trans C2
  refine wpAnyH_one (i := 10) (by kernel_rfl) ?_
  refine wpOp_step (o := { dst := some 13, op := Op.call { callee := Callee.builtin Builtin.unsafeString, args := #[Operand.tmp 7, Operand.tmp 12], argTypes := #[71, 3] }, type := 9, pos := "builder.go:47", after := #[{ on := 4, ground := Ground.data }, { on := 9, ground := Ground.data }], guard := none }) rfl fun K' hK => step_valueW (by rfl) (.string (bs l)) (w.drew.freeze ⟨gg, 0, none⟩ l.length) (by go_simp) ?_
  refine hK _ _ ⟨S3, ?_⟩
  simp only [Act.put, List.setIfInBounds_toArray, List.set_cons_zero, List.set_cons_succ]
  refine wpAnyH_take (i := 11) (oi := { dst := some 2, op := Op.assign (Operand.tmp 13), type := 9, pos := "builder.go:47", after := #[{ on := 10, ground := Ground.data }, { on := 0, ground := Ground.phase }, { on := 1, ground := Ground.phase }, { on := 2, ground := Ground.phase }, { on := 3, ground := Ground.phase }, { on := 4, ground := Ground.phase }, { on := 5, ground := Ground.phase }, { on := 6, ground := Ground.phase }, { on := 7, ground := Ground.phase }, { on := 8, ground := Ground.phase }, { on := 9, ground := Ground.phase }, { on := 10, ground := Ground.phase }], guard := none }) (v := ?_) rfl (by kernel_rfl) (by kernel_rfl) (by kernel_rfl) (fun _ _ _ h => h) (Or.inl ⟨by rfl, ?_⟩) S3 ?_
  rotate_left
  · intro W hSw
    go_simp
    try with_reducible rfl
  simp only [Act.put, List.setIfInBounds_toArray, List.set_cons_zero, List.set_cons_succ]
  refine wpAnyH_done (by kernel_rfl) ?_ _
  go_wp2
  go_ret
  exact ⟨rfl, Lib.below_freeze (Below.drew (Below.refl base w)) (p := ⟨gg, 0, none⟩) (unhide HB) _⟩
theorem str19 (base c g : Nat) (z : Tw) (l : List UInt8) (w : World) (h : Con base c g z l w) :
    Calls Tryz.prog 19 #[selfP c] w fun e w' => e = .returned (.string (bs l)) ∧ Below base w w' := by
  by_cases h0 : l = []
  · subst h0
    obtain ⟨p, hp⟩ := h.nz rfl
    exact str_nil base c g p w hp
  · obtain ⟨p, v, hc, _, ho⟩ := h.bld
    rw [Lib.byteCells_length] at ho
    have ho2 := ho
    rcases ho.2 with ⟨_, hz⟩ | ⟨gg, cap, cur, rfl, h1, h2, h3, h4, h5, _⟩
    · exact absurd (List.length_eq_zero_iff.1 hz) h0
    · exact str_some base c g gg cap p l cur w hc h0 h1 h2 h.low h3 h4 h5 ho2
end Go.Proofs.YtbkcgkffafjbgaaGreatDoor
/- A console, by the program: its answer to a text. -/
namespace Go.Proofs.YtbkcgkffafjbgaaGreatDoor
open Go.RowKit
set_option maxHeartbeats 4000000
set_option maxRecDepth 20000
set_option linter.unusedVariables false
abbrev zTk : Obj := .cells #[.slice none 0 0, .int .i64 0, .int .i64 0, .slice none 0 0, .slice none 0 0, .int .i64 0, .int .i64 0, .slice none 0 0] 53
theorem make42 (w : World) : (Instr.makeSlice 42 (.int .i64 2) (.int .i64 2)).run Tryz.prog w = .ok (.slice (some ⟨w.heap.size, 0, none⟩) 2 2) (w.alloc zTk) := by
  obtain ⟨k0, hk0, kz0, kz1, kz2⟩ := info_parts info33
  have h := run_makeSlice w (P := Tryz.prog) 42 53 k0 _ Tryz.underlying42 hk0 kz0 .i64 .i64 2 2 (by omega) (Int.le_refl _) (by rw [kz1]; omega) (by rw [kz2]; omega) (by omega)
  rw [kz1] at h
  have hm : madeCells (Value.agg #[.slice none 0 0, .int .i64 0, .int .i64 0, .slice none 0 0]).cells (Int.toNat 2 * 4) = #[.slice none 0 0, .int .i64 0, .int .i64 0, .slice none 0 0, .slice none 0 0, .int .i64 0, .int .i64 0, .slice none 0 0] := by kernel_rfl
  rw [hm] at h
  exact h
abbrev cTk (g : Nat) : Obj := .cells #[.slice (some ⟨g, 0, none⟩) 2 2, .pointer none, .slice none 0 0] 47
theorem con_start (w : World) (hg : Gl w) (h1 : 2 < w.heap.size) : Con (w.heap.size + 2) (w.heap.size + 1) w.heap.size ⟨pe0, pe0⟩ [] ((w.alloc zTk).alloc (cTk w.heap.size)) := by
  have b1 : Below w.heap.size w (w.alloc zTk) := bl_al (Below.refl _ _)
  have b2 : Below (w.alloc zTk).heap.size (w.alloc zTk) ((w.alloc zTk).alloc (cTk w.heap.size)) := bl_al (Below.refl _ _)
  have hc : conB (w.heap.size + 1) w.heap.size (.pointer none) (.slice none 0 0) ((w.alloc zTk).alloc (cTk w.heap.size)) := heap_at _ _ _ (by simp)
  have hr : row8 ((w.alloc zTk).alloc (cTk w.heap.size)) w.heap.size (.slice none 0 0) (.int .i64 0) (.int .i64 0) (.slice none 0 0) (.slice none 0 0) (.int .i64 0) (.int .i64 0) (.slice none 0 0) [] := (b2.block _ (by simp)).trans (heap_alloc_new w _)
  have hp : ∀ W : World, peO (w.heap.size + 2) (w.heap.size + 2) W (peA (.slice none 0 0) 0 0 (.slice none 0 0)) pe0 := fun W => ⟨_, _, rfl, Or.inl ⟨rfl, rfl⟩, Or.inl ⟨rfl, rfl⟩, fun g e => by cases e⟩
  refine ⟨⟨_, _, hc, Or.inl rfl, World.ownsRow_nil _ _ _ _⟩, ⟨_, _, _, _, w.heap.size + 2, w.heap.size + 2, w.heap.size + 2, w.heap.size + 2, hr, hp _, hp _, by omega, by omega, by omega, by simp, by simp, Or.inl (by omega)⟩, by omega, by omega, by simp, (hg.below b1).below b2, by omega, by omega, fun _ => ⟨_, hc⟩⟩
/-- what Console answers -/
def conV (l : By) : Value :=
  if 65536 < l.length then .tuple #[.string ⟨#[]⟩, .int .i64 2]
  else if 100 < (linesL l).length then .tuple #[.string ⟨#[]⟩, .int .i64 6]
  else .tuple #[.string (bs (linesF (linesL l))), .int .i64 0]
theorem conF_at (ls : List By) (j : Nat) (x : By) (h : ls[j]? = some x) (z : Tw) : conF (ls.take (j + 1)) z [] = ((lineF (conF (ls.take j) z []).1 x).1, (conF (ls.take j) z []).2 ++ (lineF (conF (ls.take j) z []).1 x).2) := by
  rw [List.take_add_one, h]
  exact conF_snoc _ _ _ _
theorem con9 (l : By) (m : Int) (w : World) (hg : Gl w) (hm : w.cell? ⟨2, 0, none⟩ = some (.int .i64 m)) (hl : l.length ≤ maxLen) :
    Calls Tryz.prog 9 #[.string (bs l)] w fun e w' => e = .returned (conV l) ∧ Below w.heap.size w w' := by
  have hs := bs_size l
  have h2 := World.block_lt_of_cell? w _ hm
  dsimp only at h2
  have HB : Below w.heap.size w (w.alloc (.cells #[.string (bs l)] 9)) := bl_al (Below.refl _ _)
  have K13 := fun b hb => long9 (bs l) b w hb (by rw [hs]; exact hl)
  by_cases h : 65536 < l.length
  · have K := K13 true (decide_eq_true (by rw [hs]; exact h))
    rw [show conV l = .tuple #[.string ⟨#[]⟩, .int .i64 2] by unfold conV; rw [if_pos h]]
    have HBh := hide HB
    clear K13 h hs hg hm hl h2 HB
    generalize bs l = lt at *
    go_enter Tryz.func9, Tryz.ntmps9
    go_wp2_with (go_at_call 13; refine K.mono ?_; rintro e w' ⟨rfl, rfl⟩)
    go_ret2
    exact ⟨rfl, unhide HBh⟩
  · have K := K13 false (decide_eq_false (by rw [hs]; exact h))
    have hm2 : (w.alloc (.cells #[.string (bs l)] 9)).cell? ⟨2, 0, none⟩ = some (.int .i64 m) := (World.cell?_of_block (HB.block _ h2)).trans hm
    have K17 := lines17 l m _ hm2 (by omega)
    have HB2 : Below w.heap.size w ((w.alloc (.cells #[.string (bs l)] 9)).alloc (.cells ((cutF l).map fun x => Value.string (bs x)).toArray 9)) := bl_al HB
    have hg2 := (hg.below HB).below (bl_al (o := .cells ((cutF l).map fun x => Value.string (bs x)).toArray 9) (Below.refl _ _))
    have hlen : (linesL l).length ≤ 65537 := by obtain ⟨_, _, h3⟩ := lines_pre l; omega
    have q0 : ((linesL l).length : Int) ≤ 65537 := by omega
    have hrow : ((w.alloc (.cells #[.string (bs l)] 9)).alloc (.cells ((cutF l).map fun x => Value.string (bs x)).toArray 9)).heap[w.heap.size + 1]? = some (.cells ((cutF l).map fun x => Value.string (bs x)).toArray 9 (0, 0)) := heap_at _ _ _ (by simp)
    have hsz2 : ((w.alloc (.cells #[.string (bs l)] 9)).alloc (.cells ((cutF l).map fun x => Value.string (bs x)).toArray 9)).heap.size = w.heap.size + 2 := by simp
    have hcell : Hid (∀ W : World, W.heap[w.heap.size + 1]? = some (.cells ((cutF l).map fun x => Value.string (bs x)).toArray 9 (0, 0)) → ∀ j x, (linesL l)[j]? = some x → W.cell? ⟨w.heap.size + 1, j, none⟩ = some (.string (bs x))) := hide (fun W hW j x hx => by
      obtain ⟨k, hk, _⟩ := lines_pre l
      rw [row_cell hW, List.getElem?_toArray, List.getElem?_map]
      rw [hk, List.getElem?_take] at hx
      split at hx
      · rw [hx]; rfl
      · cases hx)
    have hmem : Hid (∀ x ∈ linesL l, x.length ≤ 65536) := hide (fun x hx => by
      obtain ⟨k, hk, _⟩ := lines_pre l
      rw [hk] at hx
      have := cut_mem (List.mem_of_mem_take hx)
      omega)
    rw [show conV l = if 100 < (linesL l).length then .tuple #[.string ⟨#[]⟩, .int .i64 6] else .tuple #[.string (bs (linesF (linesL l))), .int .i64 0] by unfold conV; rw [if_neg h]]
    generalize hw2 : (w.alloc (.cells #[.string (bs l)] 9)).alloc (.cells ((cutF l).map fun x => Value.string (bs x)).toArray 9) = w2 at *
    have e1 : (w.alloc (.cells #[.string (bs l)] 9)).heap.size = w.heap.size + 1 := by simp
    rw [e1] at K17
    generalize ((cutF l).map fun x => Value.string (bs x)).toArray = cs at *
    generalize linesL l = ls at *
    clear K13 hg hm hl h hs hm2 hw2 HB
    by_cases h9 : 100 < ls.length
    · rw [if_pos h9]
      have q9 : (100 : Int) < (ls.length : Int) := by omega
      have HBh := hide HB2
      clear h9 hg2 hrow HB2 hlen hmem hcell
      generalize bs l = lt at *
      go_enter Tryz.func9, Tryz.ntmps9
      go_wp2_with (first | (go_at_call 13; refine K.mono ?_; rintro e w' ⟨rfl, rfl⟩) | (go_at_call 17; refine K17.mono ?_; rintro e w' ⟨cap, rfl, rfl⟩))
      go_ret2
      exact ⟨rfl, unhide HBh⟩
    · rw [if_neg h9]
      have q9 : (ls.length : Int) ≤ 100 := by omega
      have hmk := make42
      have C0 := con_start w2 hg2 (by omega)
      rw [hsz2] at C0
      have B3 : Below w2.heap.size w2 ((w2.alloc zTk).alloc (cTk w2.heap.size)) := bl_al (bl_al (Below.refl _ _))
      rw [hsz2] at B3
      have HB3 : Below w.heap.size w ((w2.alloc zTk).alloc (cTk (w.heap.size + 2))) := HB2.trans (B3.mono (by omega))
      have hrow3 := (B3.block (w.heap.size + 1) (by omega)).trans hrow
      have HC0 := hide C0
      have HBB := hide HB3
      have HRR := hide hrow3
      have H9 : Hid (ls.length ≤ 100) := hide (by omega)
      have HS2 := hide hsz2
      clear h9 hg2 hrow hlen C0 B3 HB3 hrow3 HB2
      generalize bs l = lt at *
      go_enter Tryz.func9, Tryz.ntmps9
      go_wp2_with (first | (go_at_call 13; refine K.mono ?_; rintro e w' ⟨rfl, rfl⟩) | (go_at_call 17; refine K17.mono ?_; rintro e w' ⟨cap, rfl, rfl⟩))
      go_loopw [20] (fun i wr => ∃ (j : Nat), j ≤ ls.length ∧ i = .int .i64 j ∧ Con (w.heap.size + 2 + 2) (w.heap.size + 2 + 1) (w.heap.size + 2) (conF (ls.take j) ⟨pe0, pe0⟩ []).1 (conF (ls.take j) ⟨pe0, pe0⟩ []).2 wr ∧ Below w.heap.size w wr ∧ wr.heap[w.heap.size + 1]? = some (.cells cs 9 (0, 0))) (fun i _ => ls.length - (intOf i).toNat)
      case atStart => exact ⟨0, by omega, rfl, unhide HC0, unhide HBB, unhide HRR⟩
      case round =>
        obtain ⟨j, hj, rfl, hc, hb, hr⟩ := hrel
        clear HC0 HBB HRR K K17 hsz2 HS2
        by_cases h8 : j = ls.length
        · subst h8
          have K19 := str19 _ _ _ _ _ wr hc
          rw [List.take_length] at K19
          have HB9 := hide hb
          have HS9 : Hid (w.heap.size ≤ wr.heap.size) := hide hb.size
          clear hc hb hr hj hmem hcell
          change Calls Tryz.prog 19 _ wr fun e w' => e = .returned (.string (bs (linesF ls))) ∧ _ at K19
          generalize ho : bs (linesF ls) = out at K19
          have HO := hide ho
          clear ho
          go_wp2_with (go_at_call 19; refine K19.mono ?_; rintro e w9 ⟨rfl, b9⟩; have HB10 := hide ((unhide HB9).trans (b9.mono (by omega))); clear b9)
          go_ret2
          rw [unhide HO]
          exact ⟨rfl, unhide HB10⟩
        · have hlt : j < ls.length := by omega
          have q1 : (j : Int) < (ls.length : Int) := by omega
          obtain ⟨x, hx⟩ : ∃ x, ls[j]? = some x := ⟨_, List.getElem?_eq_getElem hlt⟩
          have cc := unhide hcell wr hr j x hx
          have hok := conF_ok (ls.take j) (z := ⟨pe0, pe0⟩) [] ok2_zero
          have K18 := take18 _ _ _ _ _ x wr hc hok.1 (unhide hmem x (List.mem_of_getElem? hx)) (by
            have := hok.2
            have := unhide H9
            simp only [List.length_nil, List.length_take] at *
            omega)
          have he := conF_at ls j x hx ⟨pe0, pe0⟩
          have HE := hide he
          have HB9 := hide hb
          have HR9 := hide hr
          have HJ := hide hlt
          clear hc hb hr he hok hx h8 hlt hj hmem hcell H9
          generalize bs x = xt at *
          go_wp2_with (go_at_call 18; refine K18.mono ?_; rintro e w9 ⟨rfl, c9, k9⟩; have HC9 := hide c9; have HK9 := hide k9; clear c9 k9 K18)
          have := unhide HJ
          refine ⟨⟨j + 1, by omega, by go_num, ?_, (unhide HK9).below (unhide HB9) (by omega) (by omega) (by omega) (unhide HB9).size, (unhide HK9).low (unhide HR9) (by omega) (by omega) (by omega)⟩, ?_⟩
          · rw [unhide HE]; exact unhide HC9
          · simp [intOf]; omega
end Go.Proofs.YtbkcgkffafjbgaaGreatDoor
