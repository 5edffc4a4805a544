/- A frame that brings what is awaited, by the specification. -/
import Derived.Test.YtbkcgkffafjbgaaGreatDoorGd
namespace Go.Proofs.YtbkcgkffafjbgaaGreatDoor
open Go.RowKit
set_option maxHeartbeats 4000000
set_option maxRecDepth 20000
theorem in57t (v : Value) (p : Pe) (f : Fr) (w : World) (hv : peV w v p) (hcq : capQ v p) (hf : peFew p) (hs : 0 ≤ p.s ∧ p.s ≤ 1048576) (he : 0 ≤ p.e ∧ p.e ≤ 1048576) (hW : awB p f = true) :
    Calls Tryz.prog 40 #[v, frV f] w fun e w' => ∃ r, e = .returned r ∧ peV w' r (inF p f) ∧ capQ r (inF p f) ∧ farP w v r ∧ Below w.heap.size w w' := by
  obtain ⟨q, i, rfl, hq, hi⟩ := hv
  obtain ⟨f1, f2⟩ := hf
  obtain ⟨xq, s, e, xi⟩ := p
  obtain ⟨fs, fa, fh, fb⟩ := f
  dsimp only at *
  obtain ⟨A, ca, rfl⟩ := hq.slice
  obtain ⟨A2, cb, rfl⟩ := hi.slice
  obtain ⟨s0, s1⟩ := hs
  obtain ⟨e0, e1⟩ := he
  show Calls Tryz.prog 40 #[peA (.slice A xq.length ca) s e (.slice A2 xi.length cb), frA fs fa fh fb] w _
  have B1 : Below w.heap.size w (((w.alloc (.cells #[.slice A xq.length ca, .int .i64 s, .int .i64 e, .slice A2 xi.length cb] 53)).alloc (.cells #[.int .i64 fs, .int .i64 fa, .bool fh, .string fb] 75)).alloc (.cells #[.slice none 0 0, .int .i64 0, .int .i64 0, .slice none 0 0] 53)) := bl_al (bl_al (bl_al (Below.refl _ _)))
  have n2 : (((w.alloc (.cells #[.slice A xq.length ca, .int .i64 s, .int .i64 e, .slice A2 xi.length cb] 53)).alloc (.cells #[.int .i64 fs, .int .i64 fa, .bool fh, .string fb] 75)).alloc (.cells #[.slice none 0 0, .int .i64 0, .int .i64 0, .slice none 0 0] 53)).heap[w.heap.size + 1 + 1]? = some (.cells #[.slice none 0 0, .int .i64 0, .int .i64 0, .slice none 0 0] 53 (0, 0)) := heap_at _ _ _ (by simp)
  have n1 : (((w.alloc (.cells #[.slice A xq.length ca, .int .i64 s, .int .i64 e, .slice A2 xi.length cb] 53)).alloc (.cells #[.int .i64 fs, .int .i64 fa, .bool fh, .string fb] 75)).alloc (.cells #[.slice none 0 0, .int .i64 0, .int .i64 0, .slice none 0 0] 53)).heap[w.heap.size + 1]? = some (.cells #[.int .i64 fs, .int .i64 fa, .bool fh, .string fb] 75 (0, 0)) := by
    rw [Below.heap_alloc _ _ _ (by simp)]
    exact heap_at _ _ _ (by simp)
  have n0 : (((w.alloc (.cells #[.slice A xq.length ca, .int .i64 s, .int .i64 e, .slice A2 xi.length cb] 53)).alloc (.cells #[.int .i64 fs, .int .i64 fa, .bool fh, .string fb] 75)).alloc (.cells #[.slice none 0 0, .int .i64 0, .int .i64 0, .slice none 0 0] 53)).heap[w.heap.size]? = some (.cells #[.slice A xq.length ca, .int .i64 s, .int .i64 e, .slice A2 xi.length cb] 53 (0, 0)) := by
    rw [Below.heap_alloc _ _ _ (by simp; omega), Below.heap_alloc _ _ _ (by simp)]
    exact heap_at _ _ _ rfl
  have EZ : Hid ((((w.alloc (.cells #[.slice A xq.length ca, .int .i64 s, .int .i64 e, .slice A2 xi.length cb] 53)).alloc (.cells #[.int .i64 fs, .int .i64 fa, .bool fh, .string fb] 75)).alloc (.cells #[.slice none 0 0, .int .i64 0, .int .i64 0, .slice none 0 0] 53)).heap.size = w.heap.size + 1 + 1 + 1) := hide (by simp)
  have M0 := hide n0
  have MF := hide n1
  have M2 := hide n2
  have BB := hide B1
  have VQ := hide (hq.below B1)
  have VI := hide (hi.below B1)
  have VQr : Hid (apB w.heap.size (w.heap.size + 1 + 1) (.slice A xq.length ca) xq) := hide (apB_old hq)
  have VIr : Hid (apB w.heap.size (w.heap.size + 1 + 1) (.slice A2 xi.length cb) xi) := hide (apB_old hi)
  have CQ := hide hcq
  have FQ := hide f1
  have q0 : (0 : Int) ≤ (xq.length : Int) := by omega
  have q1 : (xq.length : Int) ≤ 1048576 := by omega
  have i0 : (0 : Int) ≤ (xi.length : Int) := by omega
  have i1 : (xi.length : Int) ≤ 1048576 := by omega
  have FI := hide f2
  clear n0 n1 n2 B1 hq hi f1 f2 hcq
  have HT := hide (takeF_t hW)
  unfold awB at hW
  dsimp only at hW
  simp only [Bool.and_eq_true, decide_eq_true_eq] at hW
  obtain ⟨⟨⟨w1', w2'⟩, w3'⟩, w4'⟩ := hW
  subst w1'
  dsimp only at HT
  have w3x : (xi.length : Int) < 100 := by omega
  have hb : (fs == e) = true := by simpa using w2'
  clear w3' w2'
  go_enter Tryz.func40, Tryz.ntmps40
  go_wp2
  generalize ((w.alloc (.cells #[.slice A xq.length ca, .int .i64 s, .int .i64 e, .slice A2 xi.length cb] 53)).alloc (.cells #[.int .i64 fs, .int .i64 fa, .bool true, .string fb] 75)).alloc (.cells #[.slice none 0 0, .int .i64 0, .int .i64 0, .slice none 0 0] 53) = w1 at *
  refine wp_region_late (S := fun W' => W'.heap[w.heap.size]? = some (.cells #[.slice A xq.length ca, .int .i64 s, .int .i64 e, .slice A2 xi.length cb] 53 (0, 0)) ∧ W'.heap[w.heap.size + 1]? = some (.cells #[.int .i64 fs, .int .i64 fa, .bool true, .string fb] 75 (0, 0))) (late := [9]) (by kernel_rfl) ?_
  have r0 := unhide M0
  have rF := unhide MF
  have hS0 : Below w1.heap.size w1 { w1 with drawn := w1.drawn + 1 } := below_drewN (Below.refl _ _) 1
  have lb2 := (Array.getElem?_eq_some_iff.1 (unhide M2)).1
  refine wpAnyL_take (i := 1) (oi := { dst := some 26, op := Op.fieldAddr 53 (Operand.tmp 2) 3, type := 0, pos := "l15_talk.go:70", after := #[], guard := none }) (v := ?_) rfl (by kernel_rfl) (by kernel_rfl) (by kernel_rfl) (by kernel_rfl) (fun _ _ _ h => h) (Or.inl ⟨by rfl, ?_⟩) ⟨r0, rF⟩ ?_
  rotate_left
  · intro W hSw
    obtain ⟨_, c0, c1, c2, c3⟩ := pc_row hSw.1
    obtain ⟨_, d0, d1, d2, d3⟩ := fc_row hSw.2
    go_simp
    try with_reducible rfl
  simp only [Act.put, List.setIfInBounds_toArray, List.set_cons_zero, List.set_cons_succ]
  refine wpAnyL_take (i := 2) (oi := { dst := some 27, op := Op.load 23 (Operand.tmp 26), type := 23, pos := "l15_talk.go:70", after := #[{ on := 1, ground := Ground.data }], guard := none }) (v := ?_) rfl (by kernel_rfl) (by kernel_rfl) (by kernel_rfl) (by kernel_rfl) (fun _ _ _ h => h) (Or.inl ⟨by rfl, ?_⟩) ⟨r0, rF⟩ ?_
  rotate_left
  · intro W hSw
    obtain ⟨_, c0, c1, c2, c3⟩ := pc_row hSw.1
    obtain ⟨_, d0, d1, d2, d3⟩ := fc_row hSw.2
    go_simp
    try with_reducible rfl
  simp only [Act.put, List.setIfInBounds_toArray, List.set_cons_zero, List.set_cons_succ]
  refine wpAnyL_take (i := 4) (oi := { dst := some 29, op := Op.fieldAddr 75 (Operand.tmp 3) 3, type := 0, pos := "l15_talk.go:70", after := #[], guard := none }) (v := ?_) rfl (by kernel_rfl) (by kernel_rfl) (by kernel_rfl) (by kernel_rfl) (fun _ _ _ h => h) (Or.inl ⟨by rfl, ?_⟩) ⟨r0, rF⟩ ?_
  rotate_left
  · intro W hSw
    obtain ⟨_, c0, c1, c2, c3⟩ := pc_row hSw.1
    obtain ⟨_, d0, d1, d2, d3⟩ := fc_row hSw.2
    go_simp
    try with_reducible rfl
  simp only [Act.put, List.setIfInBounds_toArray, List.set_cons_zero, List.set_cons_succ]
  refine wpAnyL_take (i := 5) (oi := { dst := some 30, op := Op.load 9 (Operand.tmp 29), type := 9, pos := "l15_talk.go:70", after := #[{ on := 4, ground := Ground.data }], guard := none }) (v := ?_) rfl (by kernel_rfl) (by kernel_rfl) (by kernel_rfl) (by kernel_rfl) (fun _ _ _ h => h) (Or.inl ⟨by rfl, ?_⟩) ⟨r0, rF⟩ ?_
  rotate_left
  · intro W hSw
    obtain ⟨_, c0, c1, c2, c3⟩ := pc_row hSw.1
    obtain ⟨_, d0, d1, d2, d3⟩ := fc_row hSw.2
    go_simp
    try with_reducible rfl
  simp only [Act.put, List.setIfInBounds_toArray, List.set_cons_zero, List.set_cons_succ]
  refine wpAnyL_two (i := 0) (j := 6) (by kernel_rfl) ?_ ?_
  · refine wpOp_step (o := { dst := some 25, op := Op.buildSlice 23 0 #[], type := 23, pos := "l15_talk.go:70", after := #[], guard := none }) rfl fun K' hK => step_valueW (by rfl) (.slice (some ⟨w1.heap.size, 0, none⟩) 0 0) ({ w1 with drawn := w1.drawn + 1 }.alloc (.cells #[] 9)) (by go_simp) ?_
    have bA : Below w1.heap.size w1 ({ w1 with drawn := w1.drawn + 1 }.alloc (.cells #[] 9)) := bl_al hS0
    have SF0 := (show _ ∧ _ from ⟨(bA.block _ (Array.getElem?_eq_some_iff.1 r0).1).trans r0, (bA.block _ (Array.getElem?_eq_some_iff.1 rF).1).trans rF⟩)
    refine hK _ _ ⟨(fun _ => SF0), ?_⟩
    simp only [Act.put, List.setIfInBounds_toArray, List.set_cons_zero, List.set_cons_succ]
    refine wpAnyL_two (i := 3) (j := 6) (by kernel_rfl) ?_ ?_
    · have VI1 : strsV { w1 with drawn := w1.drawn + 1 } (.slice A2 xi.length cb) xi := (unhide VI).below hS0
      obtain ⟨g1, k1, w3, hr1, cp⟩ := run_copy { w1 with drawn := w1.drawn + 1 } 23 w1.heap.size rfl (.slice A2 xi.length cb) xi VI1 (by have := unhide FI; omega)
      have b3 := bl_st cp.be hS0
      have SF : _ ∧ _ := ⟨(b3.block _ (Array.getElem?_eq_some_iff.1 r0).1).trans r0, (b3.block _ (Array.getElem?_eq_some_iff.1 rF).1).trans rF⟩
      refine wpOp_step (o := { dst := some 28, op := Op.call { callee := Callee.builtin Builtin.append, args := #[Operand.tmp 25, Operand.tmp 27], argTypes := #[23, 23] }, type := 23, pos := "l15_talk.go:70", after := #[{ on := 0, ground := Ground.data }, { on := 2, ground := Ground.data }], guard := none }) rfl fun K' hK => step_appendW (by rfl) _ _ rfl _ _ _ _ rfl rfl hr1 ?_
      refine hK _ _ ⟨(fun _ => SF), ?_⟩
      simp only [Act.put, List.setIfInBounds_toArray, List.set_cons_zero, List.set_cons_succ]
      refine wpAnyL_one (i := 6) (by kernel_rfl) ?_
      refine wpOp_step (o := { dst := some 31, op := Op.buildSlice 23 1 #[(0, Operand.tmp 30)], type := 23, pos := "l15_talk.go:70", after := #[{ on := 5, ground := Ground.data }], guard := none }) rfl fun K' hK => step_valueW (by rfl) (.slice (some ⟨w3.heap.size, 0, none⟩) 1 1) (w3.alloc (.cells #[.string fb] 9)) (by go_simp) ?_
      have bA6 : Below w1.heap.size w1 (w3.alloc (.cells #[.string fb] 9)) := bl_al b3
      have SF6 := (show _ ∧ _ from ⟨(bA6.block _ (Array.getElem?_eq_some_iff.1 r0).1).trans r0, (bA6.block _ (Array.getElem?_eq_some_iff.1 rF).1).trans rF⟩)
      refine hK _ _ ⟨(fun _ => SF6), ?_⟩
      simp only [Act.put, List.setIfInBounds_toArray, List.set_cons_zero, List.set_cons_succ]
      refine wpAnyL_one (i := 7) (by kernel_rfl) ?_
      clear SF
      have lo1 := cp.lo
      have s3 := b3.size
      have szD : { w1 with drawn := w1.drawn + 1 }.heap.size = w1.heap.size := rfl
      obtain ⟨g2, k2, w8, hr2, pu⟩ := run_push w3 23 { w1 with drawn := w1.drawn + 1 }.heap.size xi.length g1 k1 xi cp.row w3.heap.size rfl fb (by have := unhide FI; omega) (by omega)
      have LB : Below w.heap.size w w8 := pu.be _ _ (bl_st b3 (unhide BB)) (by have := (unhide BB).size; omega) (bl_st b3 (unhide BB)).size
      have SF : _ ∧ _ := ⟨(pu.kept _ (by have := (unhide BB).size; omega) (by omega)).trans ((b3.block _ (Array.getElem?_eq_some_iff.1 r0).1).trans r0), (pu.kept _ (by omega) (by omega)).trans ((b3.block _ (Array.getElem?_eq_some_iff.1 rF).1).trans rF)⟩
      have N2 := (pu.kept _ (by omega) (by omega)).trans ((b3.block _ lb2).trans (unhide M2))
      have VQ8 : strsV w8 (.slice A xq.length ca) xq := strs_old (unhide VQ) (fun k hk => ((pu.kept k (by omega) (by omega)).trans (b3.block k hk)).trans rfl) (by have := pu.size; omega)
      have gg2 : w.heap.size + 1 + 1 < g2 := by have := pu.lo; omega
      have VP := (pu.own (by simp)).strs
      refine wpOp_step (o := { dst := some 32, op := Op.call { callee := Callee.builtin Builtin.append, args := #[Operand.tmp 28, Operand.tmp 31], argTypes := #[23, 23] }, type := 23, pos := "l15_talk.go:70", after := #[{ on := 3, ground := Ground.data }, { on := 6, ground := Ground.data }, { on := 3, ground := Ground.chain }], guard := none }) rfl fun K' hK => step_appendW (by rfl) _ _ rfl _ _ _ _ rfl rfl hr2 ?_
      refine hK _ _ ⟨(fun _ => SF), ?_⟩
      simp only [Act.put, List.setIfInBounds_toArray, List.set_cons_zero, List.set_cons_succ]
      have LATE : Below w.heap.size w w8 := LB
      have N0 := SF.1
      have NF := SF.2
      have c3 : w8.cell? ⟨w.heap.size, 3, none⟩ = some (.slice A2 xi.length cb) := row_cell N0
      have z3 : w8.frozen? ⟨w.heap.size, 3, none⟩ = false := row_free N0
      refine wpAnyL_one (i := 8) (by kernel_rfl) ?_
      refine wpOp_step (o := { dst := some 33, op := Op.fieldAddr 53 (Operand.tmp 2) 3, type := 0, pos := "l15_talk.go:70", after := #[{ on := 0, ground := Ground.phase }, { on := 1, ground := Ground.phase }, { on := 2, ground := Ground.phase }, { on := 3, ground := Ground.phase }, { on := 4, ground := Ground.phase }, { on := 5, ground := Ground.phase }, { on := 6, ground := Ground.phase }, { on := 7, ground := Ground.phase }], guard := none }) rfl fun K' hK => step_valueW (by rfl) (.pointer (some ⟨w.heap.size, 3, none⟩)) (w8) (by go_simp) ?_
      refine hK _ _ ⟨(fun _ => SF), ?_⟩
      simp only [Act.put, List.setIfInBounds_toArray, List.set_cons_zero, List.set_cons_succ]
      refine wpAnyL_one (i := 9) (by kernel_rfl) ?_
      refine wpOp_step (o := { dst := none, op := Op.store 23 (Operand.tmp 33) (Operand.tmp 32), type := 0, pos := "l15_talk.go:70", after := #[{ on := 8, ground := Ground.data }, { on := 7, ground := Ground.data }, { on := 7, ground := Ground.chain }, { on := 0, ground := Ground.phase }, { on := 1, ground := Ground.phase }, { on := 2, ground := Ground.phase }, { on := 3, ground := Ground.phase }, { on := 4, ground := Ground.phase }, { on := 5, ground := Ground.phase }, { on := 6, ground := Ground.phase }, { on := 7, ground := Ground.phase }], guard := none }) rfl fun K' hK => step_skipW (by rfl) (w8.setCell ⟨w.heap.size, 3, none⟩ (.slice (some ⟨g2, 0, none⟩) (xi.length + 1) k2)) (by go_simp) ?_
      refine hK _ _ ⟨(fun h => by cases h), ?_⟩
      try simp only [Act.put]
      refine wpAnyL_done (by kernel_rfl) ?_ _
      have m0 := row_set (i := 3) (v := .slice (some ⟨g2, 0, none⟩) (xi.length + 1) k2) N0
      simp only [List.setIfInBounds_toArray, List.set_cons_zero, List.set_cons_succ] at m0
      have L9 := lone_setCell w.heap.size 3 w8 (.slice (some ⟨g2, 0, none⟩) (xi.length + 1) k2)
      have M0' := hide m0
      have MF' := hide ((L9.block _ (Array.getElem?_eq_some_iff.1 NF).1 (by omega)).trans NF)
      have M2' := hide ((L9.block _ (Array.getElem?_eq_some_iff.1 N2).1 (by omega)).trans N2)
      have BB' := hide (L9.below LATE (Nat.le_refl _) LATE.size)
      have VI' : Hid (strsV (w8.setCell ⟨w.heap.size, 3, none⟩ (.slice (some ⟨g2, 0, none⟩) (xi.length + 1) k2)) (.slice (some ⟨g2, 0, none⟩) (xi.length + 1) k2) (xi ++ [fb])) := hide (strs_set VP (fun k hk => by have : k = g2 := (Option.some.inj hk).symm; omega))
      have VQ' := hide (((unhide VQr) _ _ (Nat.le_refl _) (by omega) VQ8).2 3 (.slice (some ⟨g2, 0, none⟩) (xi.length + 1) k2))
      have NI : Hid (newOr w.heap.size (.slice (some ⟨g2, 0, none⟩) (xi.length + 1) k2) (.slice A2 xi.length cb)) := hide (.inr fun k hk => by have : k = g2 := (Option.some.inj hk).symm; omega)
      have VIr' : Hid (apB w.heap.size (w.heap.size + 1 + 1) (.slice (some ⟨g2, 0, none⟩) (xi.length + 1) k2) (xi ++ [fb])) := hide (apB_far fun k hk => by have : k = g2 := (Option.some.inj hk).symm; omega)
      clear cp VI1 hr1 hr2 pu SF0 SF6 bA bA6 b3 lo1 s3 szD M0 MF M2 BB VQ VI VIr m0 L9 N0 NF N2 LATE LB SF c3 z3 VP VQ8 hS0 r0 rF
      have M0 := M0'
      have MF := MF'
      have M2 := M2'
      have BB := BB'
      have VQ := VQ'
      have VI := VI'
      have VIr := VIr'
      clear M0' MF' M2' BB' VQ' VI' VIr'
      generalize w8.setCell ⟨w.heap.size, 3, none⟩ (.slice (some ⟨g2, 0, none⟩) (xi.length + 1) k2) = wa at *
      have z2 : wa.frozen? ⟨w.heap.size, 2, none⟩ = false := row_free (unhide M0)
      have CX : Hid (capQ (peA (.slice A xq.length ca) s (e + 1) (.slice (some ⟨g2, 0, none⟩) (xi.length + 1) k2)) ⟨xq, s, (e + 1), xi ++ [fb]⟩) := hide (unhide CQ).other
      obtain ⟨_, c0, c1, c2, c3⟩ := pc_row (unhide M0)
      obtain ⟨_, d0, d1, d2, d3⟩ := fc_row (unhide MF)
      by_cases hA : fa = s + 1
      · subst hA
        cases xq with
        | nil =>
          have HR := hide (show inF ⟨[], s, e, xi⟩ ⟨fs, s + 1, true, fb⟩ = ⟨[], s, (e + 1), xi ++ [fb]⟩ by unfold inF; rw [unhide HT]; exact if_neg (by simp))
          have nz : (([] : List ByteArray).length : Int) = 0 := rfl
          simp only [List.length_nil] at *
          go_wp2_with (first
            | (with_reducible change wpList _ _ _ _ _ (wa.setCell ⟨w.heap.size, 2, none⟩ (.int .i64 (e + 1)))
               have m0 := row_set (i := 2) (v := .int .i64 (e + 1)) (unhide M0)
               simp only [List.setIfInBounds_toArray, List.set_cons_zero, List.set_cons_succ] at m0
               have L9 := lone_setCell w.heap.size 2 wa (.int .i64 (e + 1))
               have MF' := hide ((L9.block _ (Array.getElem?_eq_some_iff.1 (unhide MF)).1 (by omega)).trans (unhide MF))
               have M2' := hide ((L9.block _ (Array.getElem?_eq_some_iff.1 (unhide M2)).1 (by omega)).trans (unhide M2))
               have BB' := hide (L9.below (unhide BB) (Nat.le_refl _) (unhide BB).size)
               have VI' := hide (((unhide VIr) _ _ (Nat.le_refl _) (by omega) (unhide VI)).2 2 (.int .i64 (e + 1)))
               have VQ' := hide (((unhide VQr) _ _ (Nat.le_refl _) (by omega) (unhide VQ)).2 2 (.int .i64 (e + 1)))
               have M0' := hide m0
               clear m0 L9 M0 MF M2 BB VI VQ c0 c1 c2 c3 d0 d1 d2 d3 z2
               have M0 := M0'
               have MF := MF'
               have M2 := M2'
               have BB := BB'
               have VQ := VQ'
               have VI := VI'
               clear M0' MF' M2' BB' VQ' VI'
               generalize wa.setCell ⟨w.heap.size, 2, none⟩ (.int .i64 (e + 1)) = w9 at *
               obtain ⟨_, c0, c1, c2, c3⟩ := pc_row (unhide M0)
               obtain ⟨_, d0, d1, d2, d3⟩ := fc_row (unhide MF))
            | (with_reducible change wpList _ _ _ ({ dst := _, op := Op.load 53 _, type := _, pos := _, after := _, guard := _ } :: _) _ _; refine wpList_load_row rfl 53 _ rfl w.heap.size rfl 53 #[.slice A 0 ca, .int .i64 s, .int .i64 (e + 1), .slice (some ⟨g2, 0, none⟩) (xi.length + 1) k2] (0, 0) _ (unhide M0) Tryz.underlying53 rfl (by kernel_rfl) ?_)
            | (with_reducible change wpList _ _ _ ({ dst := none, op := Op.store 53 _ _, type := _, pos := _, after := _, guard := _ } :: _) _ _; refine wpList_store_row rfl 53 _ _ rfl (w.heap.size + 1 + 1) #[.slice A 0 ca, .int .i64 s, .int .i64 (e + 1), .slice (some ⟨g2, 0, none⟩) (xi.length + 1) k2] rfl rfl 53 #[.slice none 0 0, .int .i64 0, .int .i64 0, .slice none 0 0] (unhide M2) (by kernel_rfl) rfl (by kernel_rfl) ?_))
          refine bodyPost_ret (v := peA (.slice A 0 ca) s (e + 1) (.slice (some ⟨g2, 0, none⟩) (xi.length + 1) k2)) ?_ rfl ?_
          · exact results_cell_row rfl _ _ (w.heap.size + 1 + 1) 53 _ (0, 0) _ rfl (get_setRow (unhide M2)) Tryz.underlying53 rfl (by kernel_rfl)
          · rw [unhide HR]
            exact ⟨_, rfl, ⟨_, _, rfl, (unhide VQr _ _ (by omega) (by omega) (unhide VQ)).1 _, (unhide VIr _ _ (by omega) (by omega) (unhide VI)).1 _⟩, unhide CX, ⟨_, _, _, _, _, _, _, _, rfl, rfl, .inl rfl, unhide NI⟩, below_setRow (unhide BB) (by omega)⟩
        | cons t ts =>
          have HR := hide (show inF ⟨t :: ts, s, e, xi⟩ ⟨fs, s + 1, true, fb⟩ = ⟨ts, s + 1, (e + 1), xi ++ [fb]⟩ by unfold inF; rw [unhide HT]; exact if_pos ⟨rfl, by simp⟩)
          have p0 : (0 : Int) < ((t :: ts).length : Int) := by simp
          obtain ⟨bq, oq, rfl⟩ : ∃ b off, A = some ⟨b, off, none⟩ := by
            obtain ⟨A', c', e', h'⟩ := unhide VQ
            obtain ⟨b, off, hA', _, _⟩ := h' (by simp)
            exact ⟨b, off, (Value.slice.inj e').1.trans hA'⟩
          have hcap : (t :: ts).length ≤ ca := by
            obtain ⟨A', c', i', e', h'⟩ := unhide CQ
            have e3 : ca = c' := (Value.slice.inj (List.cons.inj (Array.mk.inj (Value.agg.inj e'))).1).2.2
            rw [e3]; exact h'
          obtain ⟨oq', ho, hrun⟩ := cut_one bq oq (t :: ts).length ca (by simp) hcap (by have := unhide FQ; simp at this ⊢; omega)
          have hl1 : (t :: ts).length - 1 = ts.length := by simp
          rw [hl1] at hrun
          have V1f : Hid (∀ W : World, strsV W (.slice (some ⟨bq, oq, none⟩) (t :: ts).length ca) (t :: ts) → strsV W (.slice (some ⟨bq, oq', none⟩) ts.length (ca - 1)) ts) := hide fun W hW => tail_strs ho hW
          have F1 : Hid (ts.length ≤ 2097152) := hide (by have := unhide FQ; simp at this; omega)
          have p1 : ((t :: ts).length : Int) ≤ 1048576 := by have := unhide FQ; omega
          clear hcap ho hl1
          generalize (t :: ts).length = n at *
          go_wp2_with (first
            | (with_reducible change wpList _ _ _ _ _ (wa.setCell ⟨w.heap.size, 2, none⟩ (.int .i64 (e + 1)))
               have m0 := row_set (i := 2) (v := .int .i64 (e + 1)) (unhide M0)
               simp only [List.setIfInBounds_toArray, List.set_cons_zero, List.set_cons_succ] at m0
               have L9 := lone_setCell w.heap.size 2 wa (.int .i64 (e + 1))
               have MF' := hide ((L9.block _ (Array.getElem?_eq_some_iff.1 (unhide MF)).1 (by omega)).trans (unhide MF))
               have M2' := hide ((L9.block _ (Array.getElem?_eq_some_iff.1 (unhide M2)).1 (by omega)).trans (unhide M2))
               have BB' := hide (L9.below (unhide BB) (Nat.le_refl _) (unhide BB).size)
               have VI' := hide (((unhide VIr) _ _ (Nat.le_refl _) (by omega) (unhide VI)).2 2 (.int .i64 (e + 1)))
               have VQ' := hide (((unhide VQr) _ _ (Nat.le_refl _) (by omega) (unhide VQ)).2 2 (.int .i64 (e + 1)))
               have M0' := hide m0
               clear m0 L9 M0 MF M2 BB VI VQ c0 c1 c2 c3 d0 d1 d2 d3 z2
               have M0 := M0'
               have MF := MF'
               have M2 := M2'
               have BB := BB'
               have VQ := VQ'
               have VI := VI'
               clear M0' MF' M2' BB' VQ' VI'
               generalize wa.setCell ⟨w.heap.size, 2, none⟩ (.int .i64 (e + 1)) = w9 at *
               obtain ⟨_, c0, c1, c2, c3⟩ := pc_row (unhide M0)
               obtain ⟨_, d0, d1, d2, d3⟩ := fc_row (unhide MF))
            | (at_builtin; refine wpList_copy w9 rfl _ _ rfl w9.heap.size rfl rfl (.slice (some ⟨bq, oq', none⟩) ts.length (ca - 1)) ts rfl (unhide V1f _ (unhide VQ)) (unhide F1) ?_
               intro g1 k1 wz cp
               have n0 := (cp.be.block _ (Array.getElem?_eq_some_iff.1 (unhide M0)).1).trans (unhide M0)
               have n2 := (cp.be.block _ (Array.getElem?_eq_some_iff.1 (unhide M2)).1).trans (unhide M2)
               have sM := (Array.getElem?_eq_some_iff.1 (unhide M2)).1
               have B9 := bl_st cp.be (unhide BB)
               have O9 := hide cp.own.strs
               have K9 := hide (show w.heap.size + 1 + 1 < g1 by have := cp.lo; omega)
               have C9 : Hid (ts.length ≤ k1) := hide (by obtain ⟨A0, c0, e0, h0⟩ := cp.own.cap; have e1 : k1 = c0 := (Value.slice.inj e0).2.2; rw [e1]; exact h0)
               have I9 := hide ((unhide VI).below cp.be)
               clear c0 c1 c2 c3 d0 d1 d2 d3
               obtain ⟨_, c0, c1, c2, c3⟩ := pc_row n0
               have z0 : wz.frozen? ⟨w.heap.size, 0, none⟩ = false := row_free n0
               have z1 : wz.frozen? ⟨w.heap.size, 1, none⟩ = false := row_free n0
               have m0 := row_set (i := 1) (v := .int .i64 (s + 1)) (row_set (i := 0) (v := .slice (some ⟨g1, 0, none⟩) ts.length k1) n0)
               simp only [List.setIfInBounds_toArray, List.set_cons_zero, List.set_cons_succ] at m0
               have L9 := (lone_setCell w.heap.size 0 wz (.slice (some ⟨g1, 0, none⟩) ts.length k1)).trans (lone_setCell w.heap.size 1 _ (.int .i64 (s + 1)))
               have HL9 := hide L9
               have P0 := hide m0
               have P2 := hide ((L9.block _ (Array.getElem?_eq_some_iff.1 n2).1 (by omega)).trans n2)
               have BL := hide (L9.below B9 (Nat.le_refl _) B9.size)
               clear n0 n2 m0 B9 cp M0 MF M2 BB VQ VI V1f F1 sM L9)
            | (with_reducible change wpList _ _ _ ({ dst := none, op := Op.store 53 _ _, type := _, pos := _, after := _, guard := _ } :: _) _ _; refine wpList_store_row rfl 53 _ _ rfl (w.heap.size + 1 + 1) #[.slice (some ⟨g1, 0, none⟩) ts.length k1, .int .i64 (s + 1), .int .i64 (e + 1), .slice (some ⟨g2, 0, none⟩) (xi.length + 1) k2] rfl rfl 53 #[.slice none 0 0, .int .i64 0, .int .i64 0, .slice none 0 0] (unhide P2) (by kernel_rfl) rfl (by kernel_rfl) ?_))
          have k9 := unhide K9
          refine bodyPost_ret (v := peA (.slice (some ⟨g1, 0, none⟩) ts.length k1) (s + 1) (e + 1) (.slice (some ⟨g2, 0, none⟩) (xi.length + 1) k2)) ?_ rfl ?_
          · exact results_cell_row rfl _ _ (w.heap.size + 1 + 1) 53 _ (0, 0) _ rfl (get_setRow (unhide P2)) Tryz.underlying53 rfl (by kernel_rfl)
          · rw [unhide HR]
            refine ⟨_, rfl, ⟨_, _, rfl, ?_, ?_⟩, ⟨_, _, _, rfl, unhide C9⟩, ⟨_, _, _, _, _, _, _, _, rfl, rfl, .inr (fun k hk => by have : k = g1 := (Option.some.inj hk).symm; omega), unhide NI⟩, below_setRow (unhide BL) (by omega)⟩
            · exact strs_row (strs_set (strs_set (unhide O9) (fun k hk => by have : k = g1 := (Option.some.inj hk).symm; omega)) (fun k hk => by have : k = g1 := (Option.some.inj hk).symm; omega)) (fun k hk => by have : k = g1 := (Option.some.inj hk).symm; omega)
            · exact (unhide VIr _ _ (by omega) (by omega) ((unhide VIr _ _ (by omega) (by omega) ((unhide VIr _ _ (by omega) (by omega) (unhide I9)).2 _ _)).2 _ _)).1 _
      · have HR := hide (show inF ⟨xq, s, e, xi⟩ ⟨fs, fa, true, fb⟩ = ⟨xq, s, (e + 1), xi ++ [fb]⟩ by unfold inF; rw [unhide HT]; exact if_neg (fun h => hA h.1))
        have hA' : (fa == s + 1) = false := by simpa using hA
        go_wp2_with (first
          | (with_reducible change wpList _ _ _ _ _ (wa.setCell ⟨w.heap.size, 2, none⟩ (.int .i64 (e + 1)))
             have m0 := row_set (i := 2) (v := .int .i64 (e + 1)) (unhide M0)
             simp only [List.setIfInBounds_toArray, List.set_cons_zero, List.set_cons_succ] at m0
             have L9 := lone_setCell w.heap.size 2 wa (.int .i64 (e + 1))
             have MF' := hide ((L9.block _ (Array.getElem?_eq_some_iff.1 (unhide MF)).1 (by omega)).trans (unhide MF))
             have M2' := hide ((L9.block _ (Array.getElem?_eq_some_iff.1 (unhide M2)).1 (by omega)).trans (unhide M2))
             have BB' := hide (L9.below (unhide BB) (Nat.le_refl _) (unhide BB).size)
             have VI' := hide (((unhide VIr) _ _ (Nat.le_refl _) (by omega) (unhide VI)).2 2 (.int .i64 (e + 1)))
             have VQ' := hide (((unhide VQr) _ _ (Nat.le_refl _) (by omega) (unhide VQ)).2 2 (.int .i64 (e + 1)))
             have M0' := hide m0
             clear m0 L9 M0 MF M2 BB VI VQ c0 c1 c2 c3 d0 d1 d2 d3 z2
             have M0 := M0'
             have MF := MF'
             have M2 := M2'
             have BB := BB'
             have VQ := VQ'
             have VI := VI'
             clear M0' MF' M2' BB' VQ' VI'
             generalize wa.setCell ⟨w.heap.size, 2, none⟩ (.int .i64 (e + 1)) = w9 at *
             obtain ⟨_, c0, c1, c2, c3⟩ := pc_row (unhide M0)
             obtain ⟨_, d0, d1, d2, d3⟩ := fc_row (unhide MF))
          | (with_reducible change wpList _ _ _ ({ dst := _, op := Op.load 53 _, type := _, pos := _, after := _, guard := _ } :: _) _ _; refine wpList_load_row rfl 53 _ rfl w.heap.size rfl 53 #[.slice A xq.length ca, .int .i64 s, .int .i64 (e + 1), .slice (some ⟨g2, 0, none⟩) (xi.length + 1) k2] (0, 0) _ (unhide M0) Tryz.underlying53 rfl (by kernel_rfl) ?_)
          | (with_reducible change wpList _ _ _ ({ dst := none, op := Op.store 53 _ _, type := _, pos := _, after := _, guard := _ } :: _) _ _; refine wpList_store_row rfl 53 _ _ rfl (w.heap.size + 1 + 1) #[.slice A xq.length ca, .int .i64 s, .int .i64 (e + 1), .slice (some ⟨g2, 0, none⟩) (xi.length + 1) k2] rfl rfl 53 #[.slice none 0 0, .int .i64 0, .int .i64 0, .slice none 0 0] (unhide M2) (by kernel_rfl) rfl (by kernel_rfl) ?_))
        refine bodyPost_ret (v := peA (.slice A xq.length ca) s (e + 1) (.slice (some ⟨g2, 0, none⟩) (xi.length + 1) k2)) ?_ rfl ?_
        · exact results_cell_row rfl _ _ (w.heap.size + 1 + 1) 53 _ (0, 0) _ rfl (get_setRow (unhide M2)) Tryz.underlying53 rfl (by kernel_rfl)
        · rw [unhide HR]
          exact ⟨_, rfl, ⟨_, _, rfl, (unhide VQr _ _ (by omega) (by omega) (unhide VQ)).1 _, (unhide VIr _ _ (by omega) (by omega) (unhide VI)).1 _⟩, unhide CX, ⟨_, _, _, _, _, _, _, _, rfl, rfl, .inl rfl, unhide NI⟩, below_setRow (unhide BB) (by omega)⟩
    · refine wpOp_step (o := { dst := some 31, op := Op.buildSlice 23 1 #[(0, Operand.tmp 30)], type := 23, pos := "l15_talk.go:70", after := #[{ on := 5, ground := Ground.data }], guard := none }) rfl fun K' hK => step_valueW (by rfl) (.slice (some ⟨w1.heap.size + 1, 0, none⟩) 1 1) (({ w1 with drawn := w1.drawn + 1 }.alloc (.cells #[] 9)).alloc (.cells #[.string fb] 9)) (by go_simp) ?_
      have bA6 : Below w1.heap.size w1 (({ w1 with drawn := w1.drawn + 1 }.alloc (.cells #[] 9)).alloc (.cells #[.string fb] 9)) := bl_al bA
      have SF6 := (show _ ∧ _ from ⟨(bA6.block _ (Array.getElem?_eq_some_iff.1 r0).1).trans r0, (bA6.block _ (Array.getElem?_eq_some_iff.1 rF).1).trans rF⟩)
      refine hK _ _ ⟨(fun _ => SF6), ?_⟩
      simp only [Act.put, List.setIfInBounds_toArray, List.set_cons_zero, List.set_cons_succ]
      refine wpAnyL_one (i := 3) (by kernel_rfl) ?_
      have szD : { w1 with drawn := w1.drawn + 1 }.heap.size = w1.heap.size := rfl
      have szX : (({ w1 with drawn := w1.drawn + 1 }.alloc (.cells #[] 9)).alloc (.cells #[.string fb] 9)).heap.size = w1.heap.size + 1 + 1 := by simp
      have bX : Below w1.heap.size w1 (({ w1 with drawn := w1.drawn + 1 }.alloc (.cells #[] 9)).alloc (.cells #[.string fb] 9)) := bl_al (bl_al hS0)
      have rowE : (({ w1 with drawn := w1.drawn + 1 }.alloc (.cells #[] 9)).alloc (.cells #[.string fb] 9)).ownsRow w1.heap.size 9 1 (.slice (some ⟨w1.heap.size, 0, none⟩) 0 0) 0 (([] : List ByteArray).map Value.string) := (World.ownsRow_made (base := w1.heap.size) (e := 9) (size := 1) { w1 with drawn := w1.drawn + 1 } #[] 0 (Nat.le_refl _) (Nat.zero_le _) rfl).alloc _
      have T1 : strsV (({ w1 with drawn := w1.drawn + 1 }.alloc (.cells #[] 9)).alloc (.cells #[.string fb] 9)) (.slice (some ⟨w1.heap.size + 1, 0, none⟩) 1 1) [fb] := (by have := one_str ({ w1 with drawn := w1.drawn + 1 }.alloc (.cells #[] 9)) fb; simpa using this)
      obtain ⟨g1, k1, w3, hr1, p1⟩ := run_app (({ w1 with drawn := w1.drawn + 1 }.alloc (.cells #[] 9)).alloc (.cells #[.string fb] 9)) 23 w1.heap.size 0 (w1.heap.size) 0 [] rowE (.slice A2 xi.length cb) xi ((unhide VI).below bX) (by have := unhide FI; omega) (by omega)
      rw [Nat.zero_add] at hr1 p1
      rw [List.nil_append] at p1
      have T3 : strsV w3 (.slice (some ⟨w1.heap.size + 1, 0, none⟩) 1 1) [fb] := p1.strs T1 (fun k hk => by have : k = w1.heap.size + 1 := (Option.some.inj hk).symm; omega)
      have b3 : Below w1.heap.size w1 w3 := p1.be _ _ bX (Nat.le_refl _) (by omega)
      have SF : _ ∧ _ := ⟨(b3.block _ (Array.getElem?_eq_some_iff.1 r0).1).trans r0, (b3.block _ (Array.getElem?_eq_some_iff.1 rF).1).trans rF⟩
      refine wpOp_step (o := { dst := some 28, op := Op.call { callee := Callee.builtin Builtin.append, args := #[Operand.tmp 25, Operand.tmp 27], argTypes := #[23, 23] }, type := 23, pos := "l15_talk.go:70", after := #[{ on := 0, ground := Ground.data }, { on := 2, ground := Ground.data }], guard := none }) rfl fun K' hK => step_appendW (by rfl) _ _ rfl _ _ _ _ rfl rfl hr1 ?_
      refine hK _ _ ⟨(fun _ => SF), ?_⟩
      simp only [Act.put, List.setIfInBounds_toArray, List.set_cons_zero, List.set_cons_succ]
      refine wpAnyL_one (i := 7) (by kernel_rfl) ?_
      clear SF
      have lo1 := (p1.row.lt g1 rfl).1
      have s3 := b3.size
      obtain ⟨g2, k2, w8, hr2, pu⟩ := run_app w3 23 w1.heap.size xi.length g1 k1 xi p1.row (.slice (some ⟨w1.heap.size + 1, 0, none⟩) 1 1) [fb] T3 (by have := unhide FI; simp; omega) (by omega)
      have LB : Below w.heap.size w w8 := pu.be _ _ (bl_st b3 (unhide BB)) (by have := (unhide BB).size; omega) (bl_st b3 (unhide BB)).size
      have SF : _ ∧ _ := ⟨(pu.kept _ (by have := (unhide BB).size; omega) (by omega)).trans ((b3.block _ (Array.getElem?_eq_some_iff.1 r0).1).trans r0), (pu.kept _ (by omega) (by omega)).trans ((b3.block _ (Array.getElem?_eq_some_iff.1 rF).1).trans rF)⟩
      have N2 := (pu.kept _ (by omega) (by omega)).trans ((b3.block _ lb2).trans (unhide M2))
      have VQ8 : strsV w8 (.slice A xq.length ca) xq := strs_old (unhide VQ) (fun k hk => ((pu.kept k (by omega) (by omega)).trans (b3.block k hk)).trans rfl) (by have := pu.size; omega)
      have gg2 : w.heap.size + 1 + 1 < g2 := by have := pu.lo; have := (pu.row.lt g2 rfl).1; omega
      have VP := (pu.own (by simp)).strs
      refine wpOp_step (o := { dst := some 32, op := Op.call { callee := Callee.builtin Builtin.append, args := #[Operand.tmp 28, Operand.tmp 31], argTypes := #[23, 23] }, type := 23, pos := "l15_talk.go:70", after := #[{ on := 3, ground := Ground.data }, { on := 6, ground := Ground.data }, { on := 3, ground := Ground.chain }], guard := none }) rfl fun K' hK => step_appendW (by rfl) _ _ rfl _ _ _ _ rfl rfl hr2 ?_
      refine hK _ _ ⟨(fun _ => SF), ?_⟩
      simp only [Act.put, List.setIfInBounds_toArray, List.set_cons_zero, List.set_cons_succ]
      have LATE : Below w.heap.size w w8 := LB
      have N0 := SF.1
      have NF := SF.2
      have c3 : w8.cell? ⟨w.heap.size, 3, none⟩ = some (.slice A2 xi.length cb) := row_cell N0
      have z3 : w8.frozen? ⟨w.heap.size, 3, none⟩ = false := row_free N0
      refine wpAnyL_one (i := 8) (by kernel_rfl) ?_
      refine wpOp_step (o := { dst := some 33, op := Op.fieldAddr 53 (Operand.tmp 2) 3, type := 0, pos := "l15_talk.go:70", after := #[{ on := 0, ground := Ground.phase }, { on := 1, ground := Ground.phase }, { on := 2, ground := Ground.phase }, { on := 3, ground := Ground.phase }, { on := 4, ground := Ground.phase }, { on := 5, ground := Ground.phase }, { on := 6, ground := Ground.phase }, { on := 7, ground := Ground.phase }], guard := none }) rfl fun K' hK => step_valueW (by rfl) (.pointer (some ⟨w.heap.size, 3, none⟩)) (w8) (by go_simp) ?_
      refine hK _ _ ⟨(fun _ => SF), ?_⟩
      simp only [Act.put, List.setIfInBounds_toArray, List.set_cons_zero, List.set_cons_succ]
      refine wpAnyL_one (i := 9) (by kernel_rfl) ?_
      refine wpOp_step (o := { dst := none, op := Op.store 23 (Operand.tmp 33) (Operand.tmp 32), type := 0, pos := "l15_talk.go:70", after := #[{ on := 8, ground := Ground.data }, { on := 7, ground := Ground.data }, { on := 7, ground := Ground.chain }, { on := 0, ground := Ground.phase }, { on := 1, ground := Ground.phase }, { on := 2, ground := Ground.phase }, { on := 3, ground := Ground.phase }, { on := 4, ground := Ground.phase }, { on := 5, ground := Ground.phase }, { on := 6, ground := Ground.phase }, { on := 7, ground := Ground.phase }], guard := none }) rfl fun K' hK => step_skipW (by rfl) (w8.setCell ⟨w.heap.size, 3, none⟩ (.slice (some ⟨g2, 0, none⟩) (xi.length + 1) k2)) (by go_simp) ?_
      refine hK _ _ ⟨(fun h => by cases h), ?_⟩
      try simp only [Act.put]
      refine wpAnyL_done (by kernel_rfl) ?_ _
      have m0 := row_set (i := 3) (v := .slice (some ⟨g2, 0, none⟩) (xi.length + 1) k2) N0
      simp only [List.setIfInBounds_toArray, List.set_cons_zero, List.set_cons_succ] at m0
      have L9 := lone_setCell w.heap.size 3 w8 (.slice (some ⟨g2, 0, none⟩) (xi.length + 1) k2)
      have M0' := hide m0
      have MF' := hide ((L9.block _ (Array.getElem?_eq_some_iff.1 NF).1 (by omega)).trans NF)
      have M2' := hide ((L9.block _ (Array.getElem?_eq_some_iff.1 N2).1 (by omega)).trans N2)
      have BB' := hide (L9.below LATE (Nat.le_refl _) LATE.size)
      have VI' : Hid (strsV (w8.setCell ⟨w.heap.size, 3, none⟩ (.slice (some ⟨g2, 0, none⟩) (xi.length + 1) k2)) (.slice (some ⟨g2, 0, none⟩) (xi.length + 1) k2) (xi ++ [fb])) := hide (strs_set VP (fun k hk => by have : k = g2 := (Option.some.inj hk).symm; omega))
      have VQ' := hide (((unhide VQr) _ _ (Nat.le_refl _) (by omega) VQ8).2 3 (.slice (some ⟨g2, 0, none⟩) (xi.length + 1) k2))
      have NI : Hid (newOr w.heap.size (.slice (some ⟨g2, 0, none⟩) (xi.length + 1) k2) (.slice A2 xi.length cb)) := hide (.inr fun k hk => by have : k = g2 := (Option.some.inj hk).symm; omega)
      have VIr' : Hid (apB w.heap.size (w.heap.size + 1 + 1) (.slice (some ⟨g2, 0, none⟩) (xi.length + 1) k2) (xi ++ [fb])) := hide (apB_far fun k hk => by have : k = g2 := (Option.some.inj hk).symm; omega)
      clear hr1 hr2 pu p1 SF0 SF6 bA bA6 b3 bX rowE T1 T3 lo1 s3 szD szX M0 MF M2 BB VQ VI VIr m0 L9 N0 NF N2 LATE LB SF c3 z3 VP VQ8 hS0 r0 rF
      have M0 := M0'
      have MF := MF'
      have M2 := M2'
      have BB := BB'
      have VQ := VQ'
      have VI := VI'
      have VIr := VIr'
      clear M0' MF' M2' BB' VQ' VI' VIr'
      generalize w8.setCell ⟨w.heap.size, 3, none⟩ (.slice (some ⟨g2, 0, none⟩) (xi.length + 1) k2) = wa at *
      have z2 : wa.frozen? ⟨w.heap.size, 2, none⟩ = false := row_free (unhide M0)
      have CX : Hid (capQ (peA (.slice A xq.length ca) s (e + 1) (.slice (some ⟨g2, 0, none⟩) (xi.length + 1) k2)) ⟨xq, s, (e + 1), xi ++ [fb]⟩) := hide (unhide CQ).other
      obtain ⟨_, c0, c1, c2, c3⟩ := pc_row (unhide M0)
      obtain ⟨_, d0, d1, d2, d3⟩ := fc_row (unhide MF)
      by_cases hA : fa = s + 1
      · subst hA
        cases xq with
        | nil =>
          have HR := hide (show inF ⟨[], s, e, xi⟩ ⟨fs, s + 1, true, fb⟩ = ⟨[], s, (e + 1), xi ++ [fb]⟩ by unfold inF; rw [unhide HT]; exact if_neg (by simp))
          have nz : (([] : List ByteArray).length : Int) = 0 := rfl
          simp only [List.length_nil] at *
          go_wp2_with (first
            | (with_reducible change wpList _ _ _ _ _ (wa.setCell ⟨w.heap.size, 2, none⟩ (.int .i64 (e + 1)))
               have m0 := row_set (i := 2) (v := .int .i64 (e + 1)) (unhide M0)
               simp only [List.setIfInBounds_toArray, List.set_cons_zero, List.set_cons_succ] at m0
               have L9 := lone_setCell w.heap.size 2 wa (.int .i64 (e + 1))
               have MF' := hide ((L9.block _ (Array.getElem?_eq_some_iff.1 (unhide MF)).1 (by omega)).trans (unhide MF))
               have M2' := hide ((L9.block _ (Array.getElem?_eq_some_iff.1 (unhide M2)).1 (by omega)).trans (unhide M2))
               have BB' := hide (L9.below (unhide BB) (Nat.le_refl _) (unhide BB).size)
               have VI' := hide (((unhide VIr) _ _ (Nat.le_refl _) (by omega) (unhide VI)).2 2 (.int .i64 (e + 1)))
               have VQ' := hide (((unhide VQr) _ _ (Nat.le_refl _) (by omega) (unhide VQ)).2 2 (.int .i64 (e + 1)))
               have M0' := hide m0
               clear m0 L9 M0 MF M2 BB VI VQ c0 c1 c2 c3 d0 d1 d2 d3 z2
               have M0 := M0'
               have MF := MF'
               have M2 := M2'
               have BB := BB'
               have VQ := VQ'
               have VI := VI'
               clear M0' MF' M2' BB' VQ' VI'
               generalize wa.setCell ⟨w.heap.size, 2, none⟩ (.int .i64 (e + 1)) = w9 at *
               obtain ⟨_, c0, c1, c2, c3⟩ := pc_row (unhide M0)
               obtain ⟨_, d0, d1, d2, d3⟩ := fc_row (unhide MF))
            | (with_reducible change wpList _ _ _ ({ dst := _, op := Op.load 53 _, type := _, pos := _, after := _, guard := _ } :: _) _ _; refine wpList_load_row rfl 53 _ rfl w.heap.size rfl 53 #[.slice A 0 ca, .int .i64 s, .int .i64 (e + 1), .slice (some ⟨g2, 0, none⟩) (xi.length + 1) k2] (0, 0) _ (unhide M0) Tryz.underlying53 rfl (by kernel_rfl) ?_)
            | (with_reducible change wpList _ _ _ ({ dst := none, op := Op.store 53 _ _, type := _, pos := _, after := _, guard := _ } :: _) _ _; refine wpList_store_row rfl 53 _ _ rfl (w.heap.size + 1 + 1) #[.slice A 0 ca, .int .i64 s, .int .i64 (e + 1), .slice (some ⟨g2, 0, none⟩) (xi.length + 1) k2] rfl rfl 53 #[.slice none 0 0, .int .i64 0, .int .i64 0, .slice none 0 0] (unhide M2) (by kernel_rfl) rfl (by kernel_rfl) ?_))
          refine bodyPost_ret (v := peA (.slice A 0 ca) s (e + 1) (.slice (some ⟨g2, 0, none⟩) (xi.length + 1) k2)) ?_ rfl ?_
          · exact results_cell_row rfl _ _ (w.heap.size + 1 + 1) 53 _ (0, 0) _ rfl (get_setRow (unhide M2)) Tryz.underlying53 rfl (by kernel_rfl)
          · rw [unhide HR]
            exact ⟨_, rfl, ⟨_, _, rfl, (unhide VQr _ _ (by omega) (by omega) (unhide VQ)).1 _, (unhide VIr _ _ (by omega) (by omega) (unhide VI)).1 _⟩, unhide CX, ⟨_, _, _, _, _, _, _, _, rfl, rfl, .inl rfl, unhide NI⟩, below_setRow (unhide BB) (by omega)⟩
        | cons t ts =>
          have HR := hide (show inF ⟨t :: ts, s, e, xi⟩ ⟨fs, s + 1, true, fb⟩ = ⟨ts, s + 1, (e + 1), xi ++ [fb]⟩ by unfold inF; rw [unhide HT]; exact if_pos ⟨rfl, by simp⟩)
          have p0 : (0 : Int) < ((t :: ts).length : Int) := by simp
          obtain ⟨bq, oq, rfl⟩ : ∃ b off, A = some ⟨b, off, none⟩ := by
            obtain ⟨A', c', e', h'⟩ := unhide VQ
            obtain ⟨b, off, hA', _, _⟩ := h' (by simp)
            exact ⟨b, off, (Value.slice.inj e').1.trans hA'⟩
          have hcap : (t :: ts).length ≤ ca := by
            obtain ⟨A', c', i', e', h'⟩ := unhide CQ
            have e3 : ca = c' := (Value.slice.inj (List.cons.inj (Array.mk.inj (Value.agg.inj e'))).1).2.2
            rw [e3]; exact h'
          obtain ⟨oq', ho, hrun⟩ := cut_one bq oq (t :: ts).length ca (by simp) hcap (by have := unhide FQ; simp at this ⊢; omega)
          have hl1 : (t :: ts).length - 1 = ts.length := by simp
          rw [hl1] at hrun
          have V1f : Hid (∀ W : World, strsV W (.slice (some ⟨bq, oq, none⟩) (t :: ts).length ca) (t :: ts) → strsV W (.slice (some ⟨bq, oq', none⟩) ts.length (ca - 1)) ts) := hide fun W hW => tail_strs ho hW
          have F1 : Hid (ts.length ≤ 2097152) := hide (by have := unhide FQ; simp at this; omega)
          have p1 : ((t :: ts).length : Int) ≤ 1048576 := by have := unhide FQ; omega
          clear hcap ho hl1
          generalize (t :: ts).length = n at *
          go_wp2_with (first
            | (with_reducible change wpList _ _ _ _ _ (wa.setCell ⟨w.heap.size, 2, none⟩ (.int .i64 (e + 1)))
               have m0 := row_set (i := 2) (v := .int .i64 (e + 1)) (unhide M0)
               simp only [List.setIfInBounds_toArray, List.set_cons_zero, List.set_cons_succ] at m0
               have L9 := lone_setCell w.heap.size 2 wa (.int .i64 (e + 1))
               have MF' := hide ((L9.block _ (Array.getElem?_eq_some_iff.1 (unhide MF)).1 (by omega)).trans (unhide MF))
               have M2' := hide ((L9.block _ (Array.getElem?_eq_some_iff.1 (unhide M2)).1 (by omega)).trans (unhide M2))
               have BB' := hide (L9.below (unhide BB) (Nat.le_refl _) (unhide BB).size)
               have VI' := hide (((unhide VIr) _ _ (Nat.le_refl _) (by omega) (unhide VI)).2 2 (.int .i64 (e + 1)))
               have VQ' := hide (((unhide VQr) _ _ (Nat.le_refl _) (by omega) (unhide VQ)).2 2 (.int .i64 (e + 1)))
               have M0' := hide m0
               clear m0 L9 M0 MF M2 BB VI VQ c0 c1 c2 c3 d0 d1 d2 d3 z2
               have M0 := M0'
               have MF := MF'
               have M2 := M2'
               have BB := BB'
               have VQ := VQ'
               have VI := VI'
               clear M0' MF' M2' BB' VQ' VI'
               generalize wa.setCell ⟨w.heap.size, 2, none⟩ (.int .i64 (e + 1)) = w9 at *
               obtain ⟨_, c0, c1, c2, c3⟩ := pc_row (unhide M0)
               obtain ⟨_, d0, d1, d2, d3⟩ := fc_row (unhide MF))
            | (at_builtin; refine wpList_copy w9 rfl _ _ rfl w9.heap.size rfl rfl (.slice (some ⟨bq, oq', none⟩) ts.length (ca - 1)) ts rfl (unhide V1f _ (unhide VQ)) (unhide F1) ?_
               intro g1 k1 wz cp
               have n0 := (cp.be.block _ (Array.getElem?_eq_some_iff.1 (unhide M0)).1).trans (unhide M0)
               have n2 := (cp.be.block _ (Array.getElem?_eq_some_iff.1 (unhide M2)).1).trans (unhide M2)
               have sM := (Array.getElem?_eq_some_iff.1 (unhide M2)).1
               have B9 := bl_st cp.be (unhide BB)
               have O9 := hide cp.own.strs
               have K9 := hide (show w.heap.size + 1 + 1 < g1 by have := cp.lo; omega)
               have C9 : Hid (ts.length ≤ k1) := hide (by obtain ⟨A0, c0, e0, h0⟩ := cp.own.cap; have e1 : k1 = c0 := (Value.slice.inj e0).2.2; rw [e1]; exact h0)
               have I9 := hide ((unhide VI).below cp.be)
               clear c0 c1 c2 c3 d0 d1 d2 d3
               obtain ⟨_, c0, c1, c2, c3⟩ := pc_row n0
               have z0 : wz.frozen? ⟨w.heap.size, 0, none⟩ = false := row_free n0
               have z1 : wz.frozen? ⟨w.heap.size, 1, none⟩ = false := row_free n0
               have m0 := row_set (i := 1) (v := .int .i64 (s + 1)) (row_set (i := 0) (v := .slice (some ⟨g1, 0, none⟩) ts.length k1) n0)
               simp only [List.setIfInBounds_toArray, List.set_cons_zero, List.set_cons_succ] at m0
               have L9 := (lone_setCell w.heap.size 0 wz (.slice (some ⟨g1, 0, none⟩) ts.length k1)).trans (lone_setCell w.heap.size 1 _ (.int .i64 (s + 1)))
               have HL9 := hide L9
               have P0 := hide m0
               have P2 := hide ((L9.block _ (Array.getElem?_eq_some_iff.1 n2).1 (by omega)).trans n2)
               have BL := hide (L9.below B9 (Nat.le_refl _) B9.size)
               clear n0 n2 m0 B9 cp M0 MF M2 BB VQ VI V1f F1 sM L9)
            | (with_reducible change wpList _ _ _ ({ dst := none, op := Op.store 53 _ _, type := _, pos := _, after := _, guard := _ } :: _) _ _; refine wpList_store_row rfl 53 _ _ rfl (w.heap.size + 1 + 1) #[.slice (some ⟨g1, 0, none⟩) ts.length k1, .int .i64 (s + 1), .int .i64 (e + 1), .slice (some ⟨g2, 0, none⟩) (xi.length + 1) k2] rfl rfl 53 #[.slice none 0 0, .int .i64 0, .int .i64 0, .slice none 0 0] (unhide P2) (by kernel_rfl) rfl (by kernel_rfl) ?_))
          have k9 := unhide K9
          refine bodyPost_ret (v := peA (.slice (some ⟨g1, 0, none⟩) ts.length k1) (s + 1) (e + 1) (.slice (some ⟨g2, 0, none⟩) (xi.length + 1) k2)) ?_ rfl ?_
          · exact results_cell_row rfl _ _ (w.heap.size + 1 + 1) 53 _ (0, 0) _ rfl (get_setRow (unhide P2)) Tryz.underlying53 rfl (by kernel_rfl)
          · rw [unhide HR]
            refine ⟨_, rfl, ⟨_, _, rfl, ?_, ?_⟩, ⟨_, _, _, rfl, unhide C9⟩, ⟨_, _, _, _, _, _, _, _, rfl, rfl, .inr (fun k hk => by have : k = g1 := (Option.some.inj hk).symm; omega), unhide NI⟩, below_setRow (unhide BL) (by omega)⟩
            · exact strs_row (strs_set (strs_set (unhide O9) (fun k hk => by have : k = g1 := (Option.some.inj hk).symm; omega)) (fun k hk => by have : k = g1 := (Option.some.inj hk).symm; omega)) (fun k hk => by have : k = g1 := (Option.some.inj hk).symm; omega)
            · exact (unhide VIr _ _ (by omega) (by omega) ((unhide VIr _ _ (by omega) (by omega) ((unhide VIr _ _ (by omega) (by omega) (unhide I9)).2 _ _)).2 _ _)).1 _
      · have HR := hide (show inF ⟨xq, s, e, xi⟩ ⟨fs, fa, true, fb⟩ = ⟨xq, s, (e + 1), xi ++ [fb]⟩ by unfold inF; rw [unhide HT]; exact if_neg (fun h => hA h.1))
        have hA' : (fa == s + 1) = false := by simpa using hA
        go_wp2_with (first
          | (with_reducible change wpList _ _ _ _ _ (wa.setCell ⟨w.heap.size, 2, none⟩ (.int .i64 (e + 1)))
             have m0 := row_set (i := 2) (v := .int .i64 (e + 1)) (unhide M0)
             simp only [List.setIfInBounds_toArray, List.set_cons_zero, List.set_cons_succ] at m0
             have L9 := lone_setCell w.heap.size 2 wa (.int .i64 (e + 1))
             have MF' := hide ((L9.block _ (Array.getElem?_eq_some_iff.1 (unhide MF)).1 (by omega)).trans (unhide MF))
             have M2' := hide ((L9.block _ (Array.getElem?_eq_some_iff.1 (unhide M2)).1 (by omega)).trans (unhide M2))
             have BB' := hide (L9.below (unhide BB) (Nat.le_refl _) (unhide BB).size)
             have VI' := hide (((unhide VIr) _ _ (Nat.le_refl _) (by omega) (unhide VI)).2 2 (.int .i64 (e + 1)))
             have VQ' := hide (((unhide VQr) _ _ (Nat.le_refl _) (by omega) (unhide VQ)).2 2 (.int .i64 (e + 1)))
             have M0' := hide m0
             clear m0 L9 M0 MF M2 BB VI VQ c0 c1 c2 c3 d0 d1 d2 d3 z2
             have M0 := M0'
             have MF := MF'
             have M2 := M2'
             have BB := BB'
             have VQ := VQ'
             have VI := VI'
             clear M0' MF' M2' BB' VQ' VI'
             generalize wa.setCell ⟨w.heap.size, 2, none⟩ (.int .i64 (e + 1)) = w9 at *
             obtain ⟨_, c0, c1, c2, c3⟩ := pc_row (unhide M0)
             obtain ⟨_, d0, d1, d2, d3⟩ := fc_row (unhide MF))
          | (with_reducible change wpList _ _ _ ({ dst := _, op := Op.load 53 _, type := _, pos := _, after := _, guard := _ } :: _) _ _; refine wpList_load_row rfl 53 _ rfl w.heap.size rfl 53 #[.slice A xq.length ca, .int .i64 s, .int .i64 (e + 1), .slice (some ⟨g2, 0, none⟩) (xi.length + 1) k2] (0, 0) _ (unhide M0) Tryz.underlying53 rfl (by kernel_rfl) ?_)
          | (with_reducible change wpList _ _ _ ({ dst := none, op := Op.store 53 _ _, type := _, pos := _, after := _, guard := _ } :: _) _ _; refine wpList_store_row rfl 53 _ _ rfl (w.heap.size + 1 + 1) #[.slice A xq.length ca, .int .i64 s, .int .i64 (e + 1), .slice (some ⟨g2, 0, none⟩) (xi.length + 1) k2] rfl rfl 53 #[.slice none 0 0, .int .i64 0, .int .i64 0, .slice none 0 0] (unhide M2) (by kernel_rfl) rfl (by kernel_rfl) ?_))
        refine bodyPost_ret (v := peA (.slice A xq.length ca) s (e + 1) (.slice (some ⟨g2, 0, none⟩) (xi.length + 1) k2)) ?_ rfl ?_
        · exact results_cell_row rfl _ _ (w.heap.size + 1 + 1) 53 _ (0, 0) _ rfl (get_setRow (unhide M2)) Tryz.underlying53 rfl (by kernel_rfl)
        · rw [unhide HR]
          exact ⟨_, rfl, ⟨_, _, rfl, (unhide VQr _ _ (by omega) (by omega) (unhide VQ)).1 _, (unhide VIr _ _ (by omega) (by omega) (unhide VI)).1 _⟩, unhide CX, ⟨_, _, _, _, _, _, _, _, rfl, rfl, .inl rfl, unhide NI⟩, below_setRow (unhide BB) (by omega)⟩
  · refine wpOp_step (o := { dst := some 31, op := Op.buildSlice 23 1 #[(0, Operand.tmp 30)], type := 23, pos := "l15_talk.go:70", after := #[{ on := 5, ground := Ground.data }], guard := none }) rfl fun K' hK => step_valueW (by rfl) (.slice (some ⟨w1.heap.size, 0, none⟩) 1 1) ({ w1 with drawn := w1.drawn + 1 }.alloc (.cells #[.string fb] 9)) (by go_simp) ?_
    have bA6 : Below w1.heap.size w1 ({ w1 with drawn := w1.drawn + 1 }.alloc (.cells #[.string fb] 9)) := bl_al hS0
    have SF6 := (show _ ∧ _ from ⟨(bA6.block _ (Array.getElem?_eq_some_iff.1 r0).1).trans r0, (bA6.block _ (Array.getElem?_eq_some_iff.1 rF).1).trans rF⟩)
    refine hK _ _ ⟨(fun _ => SF6), ?_⟩
    simp only [Act.put, List.setIfInBounds_toArray, List.set_cons_zero, List.set_cons_succ]
    refine wpAnyL_one (i := 0) (by kernel_rfl) ?_
    refine wpOp_step (o := { dst := some 25, op := Op.buildSlice 23 0 #[], type := 23, pos := "l15_talk.go:70", after := #[], guard := none }) rfl fun K' hK => step_valueW (by rfl) (.slice (some ⟨w1.heap.size + 1, 0, none⟩) 0 0) (({ w1 with drawn := w1.drawn + 1 }.alloc (.cells #[.string fb] 9)).alloc (.cells #[] 9)) (by go_simp) ?_
    have bA : Below w1.heap.size w1 (({ w1 with drawn := w1.drawn + 1 }.alloc (.cells #[.string fb] 9)).alloc (.cells #[] 9)) := bl_al bA6
    have SF0 := (show _ ∧ _ from ⟨(bA.block _ (Array.getElem?_eq_some_iff.1 r0).1).trans r0, (bA.block _ (Array.getElem?_eq_some_iff.1 rF).1).trans rF⟩)
    refine hK _ _ ⟨(fun _ => SF0), ?_⟩
    simp only [Act.put, List.setIfInBounds_toArray, List.set_cons_zero, List.set_cons_succ]
    refine wpAnyL_one (i := 3) (by kernel_rfl) ?_
    have szD : { w1 with drawn := w1.drawn + 1 }.heap.size = w1.heap.size := rfl
    have szX : (({ w1 with drawn := w1.drawn + 1 }.alloc (.cells #[.string fb] 9)).alloc (.cells #[] 9)).heap.size = w1.heap.size + 1 + 1 := by simp
    have bX : Below w1.heap.size w1 (({ w1 with drawn := w1.drawn + 1 }.alloc (.cells #[.string fb] 9)).alloc (.cells #[] 9)) := bl_al (bl_al hS0)
    have rowE : (({ w1 with drawn := w1.drawn + 1 }.alloc (.cells #[.string fb] 9)).alloc (.cells #[] 9)).ownsRow w1.heap.size 9 1 (.slice (some ⟨w1.heap.size + 1, 0, none⟩) 0 0) 0 (([] : List ByteArray).map Value.string) := (by have := World.ownsRow_made (base := w1.heap.size) (e := 9) (size := 1) ({ w1 with drawn := w1.drawn + 1 }.alloc (.cells #[.string fb] 9)) #[] 0 (by simp) (Nat.zero_le _) rfl; simpa using this)
    have T1 : strsV (({ w1 with drawn := w1.drawn + 1 }.alloc (.cells #[.string fb] 9)).alloc (.cells #[] 9)) (.slice (some ⟨w1.heap.size, 0, none⟩) 1 1) [fb] := ((one_str { w1 with drawn := w1.drawn + 1 } fb).below (bl_al (Below.refl _ _)))
    obtain ⟨g1, k1, w3, hr1, p1⟩ := run_app (({ w1 with drawn := w1.drawn + 1 }.alloc (.cells #[.string fb] 9)).alloc (.cells #[] 9)) 23 w1.heap.size 0 (w1.heap.size + 1) 0 [] rowE (.slice A2 xi.length cb) xi ((unhide VI).below bX) (by have := unhide FI; omega) (by omega)
    rw [Nat.zero_add] at hr1 p1
    rw [List.nil_append] at p1
    have T3 : strsV w3 (.slice (some ⟨w1.heap.size, 0, none⟩) 1 1) [fb] := p1.strs T1 (fun k hk => by have : k = w1.heap.size := (Option.some.inj hk).symm; omega)
    have b3 : Below w1.heap.size w1 w3 := p1.be _ _ bX (Nat.le_refl _) (by omega)
    have SF : _ ∧ _ := ⟨(b3.block _ (Array.getElem?_eq_some_iff.1 r0).1).trans r0, (b3.block _ (Array.getElem?_eq_some_iff.1 rF).1).trans rF⟩
    refine wpOp_step (o := { dst := some 28, op := Op.call { callee := Callee.builtin Builtin.append, args := #[Operand.tmp 25, Operand.tmp 27], argTypes := #[23, 23] }, type := 23, pos := "l15_talk.go:70", after := #[{ on := 0, ground := Ground.data }, { on := 2, ground := Ground.data }], guard := none }) rfl fun K' hK => step_appendW (by rfl) _ _ rfl _ _ _ _ rfl rfl hr1 ?_
    refine hK _ _ ⟨(fun _ => SF), ?_⟩
    simp only [Act.put, List.setIfInBounds_toArray, List.set_cons_zero, List.set_cons_succ]
    refine wpAnyL_one (i := 7) (by kernel_rfl) ?_
    clear SF
    have lo1 := (p1.row.lt g1 rfl).1
    have s3 := b3.size
    obtain ⟨g2, k2, w8, hr2, pu⟩ := run_app w3 23 w1.heap.size xi.length g1 k1 xi p1.row (.slice (some ⟨w1.heap.size, 0, none⟩) 1 1) [fb] T3 (by have := unhide FI; simp; omega) (by omega)
    have LB : Below w.heap.size w w8 := pu.be _ _ (bl_st b3 (unhide BB)) (by have := (unhide BB).size; omega) (bl_st b3 (unhide BB)).size
    have SF : _ ∧ _ := ⟨(pu.kept _ (by have := (unhide BB).size; omega) (by omega)).trans ((b3.block _ (Array.getElem?_eq_some_iff.1 r0).1).trans r0), (pu.kept _ (by omega) (by omega)).trans ((b3.block _ (Array.getElem?_eq_some_iff.1 rF).1).trans rF)⟩
    have N2 := (pu.kept _ (by omega) (by omega)).trans ((b3.block _ lb2).trans (unhide M2))
    have VQ8 : strsV w8 (.slice A xq.length ca) xq := strs_old (unhide VQ) (fun k hk => ((pu.kept k (by omega) (by omega)).trans (b3.block k hk)).trans rfl) (by have := pu.size; omega)
    have gg2 : w.heap.size + 1 + 1 < g2 := by have := pu.lo; have := (pu.row.lt g2 rfl).1; omega
    have VP := (pu.own (by simp)).strs
    refine wpOp_step (o := { dst := some 32, op := Op.call { callee := Callee.builtin Builtin.append, args := #[Operand.tmp 28, Operand.tmp 31], argTypes := #[23, 23] }, type := 23, pos := "l15_talk.go:70", after := #[{ on := 3, ground := Ground.data }, { on := 6, ground := Ground.data }, { on := 3, ground := Ground.chain }], guard := none }) rfl fun K' hK => step_appendW (by rfl) _ _ rfl _ _ _ _ rfl rfl hr2 ?_
    refine hK _ _ ⟨(fun _ => SF), ?_⟩
    simp only [Act.put, List.setIfInBounds_toArray, List.set_cons_zero, List.set_cons_succ]
    have LATE : Below w.heap.size w w8 := LB
    have N0 := SF.1
    have NF := SF.2
    have c3 : w8.cell? ⟨w.heap.size, 3, none⟩ = some (.slice A2 xi.length cb) := row_cell N0
    have z3 : w8.frozen? ⟨w.heap.size, 3, none⟩ = false := row_free N0
    refine wpAnyL_one (i := 8) (by kernel_rfl) ?_
    refine wpOp_step (o := { dst := some 33, op := Op.fieldAddr 53 (Operand.tmp 2) 3, type := 0, pos := "l15_talk.go:70", after := #[{ on := 0, ground := Ground.phase }, { on := 1, ground := Ground.phase }, { on := 2, ground := Ground.phase }, { on := 3, ground := Ground.phase }, { on := 4, ground := Ground.phase }, { on := 5, ground := Ground.phase }, { on := 6, ground := Ground.phase }, { on := 7, ground := Ground.phase }], guard := none }) rfl fun K' hK => step_valueW (by rfl) (.pointer (some ⟨w.heap.size, 3, none⟩)) (w8) (by go_simp) ?_
    refine hK _ _ ⟨(fun _ => SF), ?_⟩
    simp only [Act.put, List.setIfInBounds_toArray, List.set_cons_zero, List.set_cons_succ]
    refine wpAnyL_one (i := 9) (by kernel_rfl) ?_
    refine wpOp_step (o := { dst := none, op := Op.store 23 (Operand.tmp 33) (Operand.tmp 32), type := 0, pos := "l15_talk.go:70", after := #[{ on := 8, ground := Ground.data }, { on := 7, ground := Ground.data }, { on := 7, ground := Ground.chain }, { on := 0, ground := Ground.phase }, { on := 1, ground := Ground.phase }, { on := 2, ground := Ground.phase }, { on := 3, ground := Ground.phase }, { on := 4, ground := Ground.phase }, { on := 5, ground := Ground.phase }, { on := 6, ground := Ground.phase }, { on := 7, ground := Ground.phase }], guard := none }) rfl fun K' hK => step_skipW (by rfl) (w8.setCell ⟨w.heap.size, 3, none⟩ (.slice (some ⟨g2, 0, none⟩) (xi.length + 1) k2)) (by go_simp) ?_
    refine hK _ _ ⟨(fun h => by cases h), ?_⟩
    try simp only [Act.put]
    refine wpAnyL_done (by kernel_rfl) ?_ _
    have m0 := row_set (i := 3) (v := .slice (some ⟨g2, 0, none⟩) (xi.length + 1) k2) N0
    simp only [List.setIfInBounds_toArray, List.set_cons_zero, List.set_cons_succ] at m0
    have L9 := lone_setCell w.heap.size 3 w8 (.slice (some ⟨g2, 0, none⟩) (xi.length + 1) k2)
    have M0' := hide m0
    have MF' := hide ((L9.block _ (Array.getElem?_eq_some_iff.1 NF).1 (by omega)).trans NF)
    have M2' := hide ((L9.block _ (Array.getElem?_eq_some_iff.1 N2).1 (by omega)).trans N2)
    have BB' := hide (L9.below LATE (Nat.le_refl _) LATE.size)
    have VI' : Hid (strsV (w8.setCell ⟨w.heap.size, 3, none⟩ (.slice (some ⟨g2, 0, none⟩) (xi.length + 1) k2)) (.slice (some ⟨g2, 0, none⟩) (xi.length + 1) k2) (xi ++ [fb])) := hide (strs_set VP (fun k hk => by have : k = g2 := (Option.some.inj hk).symm; omega))
    have VQ' := hide (((unhide VQr) _ _ (Nat.le_refl _) (by omega) VQ8).2 3 (.slice (some ⟨g2, 0, none⟩) (xi.length + 1) k2))
    have NI : Hid (newOr w.heap.size (.slice (some ⟨g2, 0, none⟩) (xi.length + 1) k2) (.slice A2 xi.length cb)) := hide (.inr fun k hk => by have : k = g2 := (Option.some.inj hk).symm; omega)
    have VIr' : Hid (apB w.heap.size (w.heap.size + 1 + 1) (.slice (some ⟨g2, 0, none⟩) (xi.length + 1) k2) (xi ++ [fb])) := hide (apB_far fun k hk => by have : k = g2 := (Option.some.inj hk).symm; omega)
    clear hr1 hr2 pu p1 SF0 SF6 bA bA6 b3 bX rowE T1 T3 lo1 s3 szD szX M0 MF M2 BB VQ VI VIr m0 L9 N0 NF N2 LATE LB SF c3 z3 VP VQ8 hS0 r0 rF
    have M0 := M0'
    have MF := MF'
    have M2 := M2'
    have BB := BB'
    have VQ := VQ'
    have VI := VI'
    have VIr := VIr'
    clear M0' MF' M2' BB' VQ' VI' VIr'
    generalize w8.setCell ⟨w.heap.size, 3, none⟩ (.slice (some ⟨g2, 0, none⟩) (xi.length + 1) k2) = wa at *
    have z2 : wa.frozen? ⟨w.heap.size, 2, none⟩ = false := row_free (unhide M0)
    have CX : Hid (capQ (peA (.slice A xq.length ca) s (e + 1) (.slice (some ⟨g2, 0, none⟩) (xi.length + 1) k2)) ⟨xq, s, (e + 1), xi ++ [fb]⟩) := hide (unhide CQ).other
    obtain ⟨_, c0, c1, c2, c3⟩ := pc_row (unhide M0)
    obtain ⟨_, d0, d1, d2, d3⟩ := fc_row (unhide MF)
    by_cases hA : fa = s + 1
    · subst hA
      cases xq with
      | nil =>
        have HR := hide (show inF ⟨[], s, e, xi⟩ ⟨fs, s + 1, true, fb⟩ = ⟨[], s, (e + 1), xi ++ [fb]⟩ by unfold inF; rw [unhide HT]; exact if_neg (by simp))
        have nz : (([] : List ByteArray).length : Int) = 0 := rfl
        simp only [List.length_nil] at *
        go_wp2_with (first
          | (with_reducible change wpList _ _ _ _ _ (wa.setCell ⟨w.heap.size, 2, none⟩ (.int .i64 (e + 1)))
             have m0 := row_set (i := 2) (v := .int .i64 (e + 1)) (unhide M0)
             simp only [List.setIfInBounds_toArray, List.set_cons_zero, List.set_cons_succ] at m0
             have L9 := lone_setCell w.heap.size 2 wa (.int .i64 (e + 1))
             have MF' := hide ((L9.block _ (Array.getElem?_eq_some_iff.1 (unhide MF)).1 (by omega)).trans (unhide MF))
             have M2' := hide ((L9.block _ (Array.getElem?_eq_some_iff.1 (unhide M2)).1 (by omega)).trans (unhide M2))
             have BB' := hide (L9.below (unhide BB) (Nat.le_refl _) (unhide BB).size)
             have VI' := hide (((unhide VIr) _ _ (Nat.le_refl _) (by omega) (unhide VI)).2 2 (.int .i64 (e + 1)))
             have VQ' := hide (((unhide VQr) _ _ (Nat.le_refl _) (by omega) (unhide VQ)).2 2 (.int .i64 (e + 1)))
             have M0' := hide m0
             clear m0 L9 M0 MF M2 BB VI VQ c0 c1 c2 c3 d0 d1 d2 d3 z2
             have M0 := M0'
             have MF := MF'
             have M2 := M2'
             have BB := BB'
             have VQ := VQ'
             have VI := VI'
             clear M0' MF' M2' BB' VQ' VI'
             generalize wa.setCell ⟨w.heap.size, 2, none⟩ (.int .i64 (e + 1)) = w9 at *
             obtain ⟨_, c0, c1, c2, c3⟩ := pc_row (unhide M0)
             obtain ⟨_, d0, d1, d2, d3⟩ := fc_row (unhide MF))
          | (with_reducible change wpList _ _ _ ({ dst := _, op := Op.load 53 _, type := _, pos := _, after := _, guard := _ } :: _) _ _; refine wpList_load_row rfl 53 _ rfl w.heap.size rfl 53 #[.slice A 0 ca, .int .i64 s, .int .i64 (e + 1), .slice (some ⟨g2, 0, none⟩) (xi.length + 1) k2] (0, 0) _ (unhide M0) Tryz.underlying53 rfl (by kernel_rfl) ?_)
          | (with_reducible change wpList _ _ _ ({ dst := none, op := Op.store 53 _ _, type := _, pos := _, after := _, guard := _ } :: _) _ _; refine wpList_store_row rfl 53 _ _ rfl (w.heap.size + 1 + 1) #[.slice A 0 ca, .int .i64 s, .int .i64 (e + 1), .slice (some ⟨g2, 0, none⟩) (xi.length + 1) k2] rfl rfl 53 #[.slice none 0 0, .int .i64 0, .int .i64 0, .slice none 0 0] (unhide M2) (by kernel_rfl) rfl (by kernel_rfl) ?_))
        refine bodyPost_ret (v := peA (.slice A 0 ca) s (e + 1) (.slice (some ⟨g2, 0, none⟩) (xi.length + 1) k2)) ?_ rfl ?_
        · exact results_cell_row rfl _ _ (w.heap.size + 1 + 1) 53 _ (0, 0) _ rfl (get_setRow (unhide M2)) Tryz.underlying53 rfl (by kernel_rfl)
        · rw [unhide HR]
          exact ⟨_, rfl, ⟨_, _, rfl, (unhide VQr _ _ (by omega) (by omega) (unhide VQ)).1 _, (unhide VIr _ _ (by omega) (by omega) (unhide VI)).1 _⟩, unhide CX, ⟨_, _, _, _, _, _, _, _, rfl, rfl, .inl rfl, unhide NI⟩, below_setRow (unhide BB) (by omega)⟩
      | cons t ts =>
        have HR := hide (show inF ⟨t :: ts, s, e, xi⟩ ⟨fs, s + 1, true, fb⟩ = ⟨ts, s + 1, (e + 1), xi ++ [fb]⟩ by unfold inF; rw [unhide HT]; exact if_pos ⟨rfl, by simp⟩)
        have p0 : (0 : Int) < ((t :: ts).length : Int) := by simp
        obtain ⟨bq, oq, rfl⟩ : ∃ b off, A = some ⟨b, off, none⟩ := by
          obtain ⟨A', c', e', h'⟩ := unhide VQ
          obtain ⟨b, off, hA', _, _⟩ := h' (by simp)
          exact ⟨b, off, (Value.slice.inj e').1.trans hA'⟩
        have hcap : (t :: ts).length ≤ ca := by
          obtain ⟨A', c', i', e', h'⟩ := unhide CQ
          have e3 : ca = c' := (Value.slice.inj (List.cons.inj (Array.mk.inj (Value.agg.inj e'))).1).2.2
          rw [e3]; exact h'
        obtain ⟨oq', ho, hrun⟩ := cut_one bq oq (t :: ts).length ca (by simp) hcap (by have := unhide FQ; simp at this ⊢; omega)
        have hl1 : (t :: ts).length - 1 = ts.length := by simp
        rw [hl1] at hrun
        have V1f : Hid (∀ W : World, strsV W (.slice (some ⟨bq, oq, none⟩) (t :: ts).length ca) (t :: ts) → strsV W (.slice (some ⟨bq, oq', none⟩) ts.length (ca - 1)) ts) := hide fun W hW => tail_strs ho hW
        have F1 : Hid (ts.length ≤ 2097152) := hide (by have := unhide FQ; simp at this; omega)
        have p1 : ((t :: ts).length : Int) ≤ 1048576 := by have := unhide FQ; omega
        clear hcap ho hl1
        generalize (t :: ts).length = n at *
        go_wp2_with (first
          | (with_reducible change wpList _ _ _ _ _ (wa.setCell ⟨w.heap.size, 2, none⟩ (.int .i64 (e + 1)))
             have m0 := row_set (i := 2) (v := .int .i64 (e + 1)) (unhide M0)
             simp only [List.setIfInBounds_toArray, List.set_cons_zero, List.set_cons_succ] at m0
             have L9 := lone_setCell w.heap.size 2 wa (.int .i64 (e + 1))
             have MF' := hide ((L9.block _ (Array.getElem?_eq_some_iff.1 (unhide MF)).1 (by omega)).trans (unhide MF))
             have M2' := hide ((L9.block _ (Array.getElem?_eq_some_iff.1 (unhide M2)).1 (by omega)).trans (unhide M2))
             have BB' := hide (L9.below (unhide BB) (Nat.le_refl _) (unhide BB).size)
             have VI' := hide (((unhide VIr) _ _ (Nat.le_refl _) (by omega) (unhide VI)).2 2 (.int .i64 (e + 1)))
             have VQ' := hide (((unhide VQr) _ _ (Nat.le_refl _) (by omega) (unhide VQ)).2 2 (.int .i64 (e + 1)))
             have M0' := hide m0
             clear m0 L9 M0 MF M2 BB VI VQ c0 c1 c2 c3 d0 d1 d2 d3 z2
             have M0 := M0'
             have MF := MF'
             have M2 := M2'
             have BB := BB'
             have VQ := VQ'
             have VI := VI'
             clear M0' MF' M2' BB' VQ' VI'
             generalize wa.setCell ⟨w.heap.size, 2, none⟩ (.int .i64 (e + 1)) = w9 at *
             obtain ⟨_, c0, c1, c2, c3⟩ := pc_row (unhide M0)
             obtain ⟨_, d0, d1, d2, d3⟩ := fc_row (unhide MF))
          | (at_builtin; refine wpList_copy w9 rfl _ _ rfl w9.heap.size rfl rfl (.slice (some ⟨bq, oq', none⟩) ts.length (ca - 1)) ts rfl (unhide V1f _ (unhide VQ)) (unhide F1) ?_
             intro g1 k1 wz cp
             have n0 := (cp.be.block _ (Array.getElem?_eq_some_iff.1 (unhide M0)).1).trans (unhide M0)
             have n2 := (cp.be.block _ (Array.getElem?_eq_some_iff.1 (unhide M2)).1).trans (unhide M2)
             have sM := (Array.getElem?_eq_some_iff.1 (unhide M2)).1
             have B9 := bl_st cp.be (unhide BB)
             have O9 := hide cp.own.strs
             have K9 := hide (show w.heap.size + 1 + 1 < g1 by have := cp.lo; omega)
             have C9 : Hid (ts.length ≤ k1) := hide (by obtain ⟨A0, c0, e0, h0⟩ := cp.own.cap; have e1 : k1 = c0 := (Value.slice.inj e0).2.2; rw [e1]; exact h0)
             have I9 := hide ((unhide VI).below cp.be)
             clear c0 c1 c2 c3 d0 d1 d2 d3
             obtain ⟨_, c0, c1, c2, c3⟩ := pc_row n0
             have z0 : wz.frozen? ⟨w.heap.size, 0, none⟩ = false := row_free n0
             have z1 : wz.frozen? ⟨w.heap.size, 1, none⟩ = false := row_free n0
             have m0 := row_set (i := 1) (v := .int .i64 (s + 1)) (row_set (i := 0) (v := .slice (some ⟨g1, 0, none⟩) ts.length k1) n0)
             simp only [List.setIfInBounds_toArray, List.set_cons_zero, List.set_cons_succ] at m0
             have L9 := (lone_setCell w.heap.size 0 wz (.slice (some ⟨g1, 0, none⟩) ts.length k1)).trans (lone_setCell w.heap.size 1 _ (.int .i64 (s + 1)))
             have HL9 := hide L9
             have P0 := hide m0
             have P2 := hide ((L9.block _ (Array.getElem?_eq_some_iff.1 n2).1 (by omega)).trans n2)
             have BL := hide (L9.below B9 (Nat.le_refl _) B9.size)
             clear n0 n2 m0 B9 cp M0 MF M2 BB VQ VI V1f F1 sM L9)
          | (with_reducible change wpList _ _ _ ({ dst := none, op := Op.store 53 _ _, type := _, pos := _, after := _, guard := _ } :: _) _ _; refine wpList_store_row rfl 53 _ _ rfl (w.heap.size + 1 + 1) #[.slice (some ⟨g1, 0, none⟩) ts.length k1, .int .i64 (s + 1), .int .i64 (e + 1), .slice (some ⟨g2, 0, none⟩) (xi.length + 1) k2] rfl rfl 53 #[.slice none 0 0, .int .i64 0, .int .i64 0, .slice none 0 0] (unhide P2) (by kernel_rfl) rfl (by kernel_rfl) ?_))
        have k9 := unhide K9
        refine bodyPost_ret (v := peA (.slice (some ⟨g1, 0, none⟩) ts.length k1) (s + 1) (e + 1) (.slice (some ⟨g2, 0, none⟩) (xi.length + 1) k2)) ?_ rfl ?_
        · exact results_cell_row rfl _ _ (w.heap.size + 1 + 1) 53 _ (0, 0) _ rfl (get_setRow (unhide P2)) Tryz.underlying53 rfl (by kernel_rfl)
        · rw [unhide HR]
          refine ⟨_, rfl, ⟨_, _, rfl, ?_, ?_⟩, ⟨_, _, _, rfl, unhide C9⟩, ⟨_, _, _, _, _, _, _, _, rfl, rfl, .inr (fun k hk => by have : k = g1 := (Option.some.inj hk).symm; omega), unhide NI⟩, below_setRow (unhide BL) (by omega)⟩
          · exact strs_row (strs_set (strs_set (unhide O9) (fun k hk => by have : k = g1 := (Option.some.inj hk).symm; omega)) (fun k hk => by have : k = g1 := (Option.some.inj hk).symm; omega)) (fun k hk => by have : k = g1 := (Option.some.inj hk).symm; omega)
          · exact (unhide VIr _ _ (by omega) (by omega) ((unhide VIr _ _ (by omega) (by omega) ((unhide VIr _ _ (by omega) (by omega) (unhide I9)).2 _ _)).2 _ _)).1 _
    · have HR := hide (show inF ⟨xq, s, e, xi⟩ ⟨fs, fa, true, fb⟩ = ⟨xq, s, (e + 1), xi ++ [fb]⟩ by unfold inF; rw [unhide HT]; exact if_neg (fun h => hA h.1))
      have hA' : (fa == s + 1) = false := by simpa using hA
      go_wp2_with (first
        | (with_reducible change wpList _ _ _ _ _ (wa.setCell ⟨w.heap.size, 2, none⟩ (.int .i64 (e + 1)))
           have m0 := row_set (i := 2) (v := .int .i64 (e + 1)) (unhide M0)
           simp only [List.setIfInBounds_toArray, List.set_cons_zero, List.set_cons_succ] at m0
           have L9 := lone_setCell w.heap.size 2 wa (.int .i64 (e + 1))
           have MF' := hide ((L9.block _ (Array.getElem?_eq_some_iff.1 (unhide MF)).1 (by omega)).trans (unhide MF))
           have M2' := hide ((L9.block _ (Array.getElem?_eq_some_iff.1 (unhide M2)).1 (by omega)).trans (unhide M2))
           have BB' := hide (L9.below (unhide BB) (Nat.le_refl _) (unhide BB).size)
           have VI' := hide (((unhide VIr) _ _ (Nat.le_refl _) (by omega) (unhide VI)).2 2 (.int .i64 (e + 1)))
           have VQ' := hide (((unhide VQr) _ _ (Nat.le_refl _) (by omega) (unhide VQ)).2 2 (.int .i64 (e + 1)))
           have M0' := hide m0
           clear m0 L9 M0 MF M2 BB VI VQ c0 c1 c2 c3 d0 d1 d2 d3 z2
           have M0 := M0'
           have MF := MF'
           have M2 := M2'
           have BB := BB'
           have VQ := VQ'
           have VI := VI'
           clear M0' MF' M2' BB' VQ' VI'
           generalize wa.setCell ⟨w.heap.size, 2, none⟩ (.int .i64 (e + 1)) = w9 at *
           obtain ⟨_, c0, c1, c2, c3⟩ := pc_row (unhide M0)
           obtain ⟨_, d0, d1, d2, d3⟩ := fc_row (unhide MF))
        | (with_reducible change wpList _ _ _ ({ dst := _, op := Op.load 53 _, type := _, pos := _, after := _, guard := _ } :: _) _ _; refine wpList_load_row rfl 53 _ rfl w.heap.size rfl 53 #[.slice A xq.length ca, .int .i64 s, .int .i64 (e + 1), .slice (some ⟨g2, 0, none⟩) (xi.length + 1) k2] (0, 0) _ (unhide M0) Tryz.underlying53 rfl (by kernel_rfl) ?_)
        | (with_reducible change wpList _ _ _ ({ dst := none, op := Op.store 53 _ _, type := _, pos := _, after := _, guard := _ } :: _) _ _; refine wpList_store_row rfl 53 _ _ rfl (w.heap.size + 1 + 1) #[.slice A xq.length ca, .int .i64 s, .int .i64 (e + 1), .slice (some ⟨g2, 0, none⟩) (xi.length + 1) k2] rfl rfl 53 #[.slice none 0 0, .int .i64 0, .int .i64 0, .slice none 0 0] (unhide M2) (by kernel_rfl) rfl (by kernel_rfl) ?_))
      refine bodyPost_ret (v := peA (.slice A xq.length ca) s (e + 1) (.slice (some ⟨g2, 0, none⟩) (xi.length + 1) k2)) ?_ rfl ?_
      · exact results_cell_row rfl _ _ (w.heap.size + 1 + 1) 53 _ (0, 0) _ rfl (get_setRow (unhide M2)) Tryz.underlying53 rfl (by kernel_rfl)
      · rw [unhide HR]
        exact ⟨_, rfl, ⟨_, _, rfl, (unhide VQr _ _ (by omega) (by omega) (unhide VQ)).1 _, (unhide VIr _ _ (by omega) (by omega) (unhide VI)).1 _⟩, unhide CX, ⟨_, _, _, _, _, _, _, _, rfl, rfl, .inl rfl, unhide NI⟩, below_setRow (unhide BB) (by omega)⟩
end Go.Proofs.YtbkcgkffafjbgaaGreatDoor
