/- The law FnTalk. -/
import Derived.Test.YthonnlifgdnacaaLtm
namespace Go.Proofs.Ythonnlifgdnacaa
open Go.RowKit
set_option maxHeartbeats 4000000
set_option maxRecDepth 20000
set_option linter.unusedVariables false
/-- the eight cells of two peers -/
structure C8 (W : World) (g : Nat) (a0 a1 a2 a3 a4 a5 a6 a7 : Value) : Prop where
  c0 : W.cell? ⟨g, 0, none⟩ = some a0
  c1 : W.cell? ⟨g, 1, none⟩ = some a1
  c2 : W.cell? ⟨g, 2, none⟩ = some a2
  c3 : W.cell? ⟨g, 3, none⟩ = some a3
  c4 : W.cell? ⟨g, 4, none⟩ = some a4
  c5 : W.cell? ⟨g, 5, none⟩ = some a5
  c6 : W.cell? ⟨g, 6, none⟩ = some a6
  c7 : W.cell? ⟨g, 7, none⟩ = some a7
theorem row8.cells {W : World} {g : Nat} {a0 a1 a2 a3 a4 a5 a6 a7 : Value} {rest : List Value} (h : row8 W g a0 a1 a2 a3 a4 a5 a6 a7 rest) : C8 W g a0 a1 a2 a3 a4 a5 a6 a7 := ⟨h.c0, h.c1, h.c2, h.c3, h.c4, h.c5, h.c6, h.c7⟩
theorem own_strs {w : World} {base g c n : Nat} {ts : List ByteArray} (hn : ts.length = n) (h : w.ownsRow base 9 1 (.slice (some ⟨g, 0, none⟩) n c) n (ts.map Value.string)) : strsV w (.slice (some ⟨g, 0, none⟩) n c) ts := by
  subst hn
  exact (ownG.of_row (hi := g + 1) rfl h fun k e => by cases e; exact Nat.lt_succ_self _).strs
theorem txt_ne {x y : ByteArray} (h : ¬ x = y) : (x.toList == y.toList) = false := by
  rw [beq_eq_false_iff_ne, ByteArray.toList_eq, ByteArray.toList_eq]
  exact fun e => h (Go.WideShapes.bytes_inj e)
theorem peV_is {w : World} {q i : Value} {s e : Int} {p : Pe} (h : peV w (peA q s e i) p) : strsV w i p.i := by
  obtain ⟨q2, i2, hpe, hq, hi⟩ := h
  rw [(peA_inj hpe).2]; exact hi
theorem law_talk (A : Option Addr) (n cap : Nat) (w : World) (hn : n ≤ maxLen) (hA : codeAt w A n) :
    Calls Try.prog 3 #[.slice A n cap] w fun e w' => e = .returned (.bool true) ∧ Below w.heap.size w w' := by
  by_cases h1 : 1048576 < n
  · have q1 : (1048576 : Int) < (n : Int) := by omega
    clear hA
    go_enter Try.func3, Try.ntmps3
    go_wp2_with fail
    go_ret
    exact ⟨rfl, Below.refl _ _⟩
  have q1 : (n : Int) ≤ 1048576 := by omega
  have K11 := hide (of11 A n cap w hn hA)
  clear hA hn h1
  go_enter Try.func3, Try.ntmps3
  go_wp2_with fail
  refine (unhide K11).mono ?_
  rintro e w1 ⟨v, al, rfl, hv, hl, ht, b1⟩
  have B1 := hide b1
  have HV := hide hv
  have HTX := hide ht
  have HL6 : Hid (al.length ≤ 60) := hide hl
  have HTK := hide (tkC_few (al := al) (by omega) ht)
  have K12 := hide (run12 v al w1 hv (by unfold maxLen; omega) (fun a ha => by have := ht a ha; unfold maxLen; omega))
  have K13 := hide (fun W (h : actsV W v al) => run13 v al W h (by unfold maxLen; omega) (fun a ha => by have := ht a ha; unfold maxLen; omega))
  rw [unhide HTK] at K12
  rw [unhide HTK] at K13
  obtain ⟨Av, cv, rfl, hac⟩ := hv
  clear b1 ht hl K11 hac HTX
  go_wp2_with (first | (go_at_call 12; refine (unhide K12).mono ?_; rintro e w2 ⟨lv, cv2, rfl, ho, hb2⟩; have B2 := hide (bl_st hb2 (unhide B1)); obtain ⟨gg, cb, base, rfl, rfl, z1, z2, z3, z4, hT, hC⟩ := ho.1 (unhide HTK); have HT := hide hT; have HC := hide hC; have HV2 := hide ((unhide HV).below hb2); clear ho hT hC z1 z2 z3 z4 hb2) | (go_at_call 13; refine (unhide K13 _ (unhide HV2)).mono ?_; rintro e w3 ⟨lw, cw, rfl, ho3, hb3⟩; have B3 := hide (bl_st hb3 (unhide B2)); have HV3 := hide ((unhide HV2).below hb3); have HO3 := hide (ho3.1 (unhide HTK)); have HT3 := hide ((unhide HT).below hb3); have HC3 := hide ((hb3.block _ (Array.getElem?_eq_some_iff.1 (unhide HC)).1).trans (unhide HC)); clear ho3 hb3 HT HC HV2; obtain ⟨Bv, cB, hcw, _⟩ := (unhide HO3).2; obtain ⟨g9, c9, p4, p5, p6, p7, rest9, hlw, hc9, hr9, hx9, _, hy9, _⟩ := (unhide HO3).1; subst hcw hlw; rw [codesF_len]; rw [codesF_len] at HO3))
  obtain ⟨Q0, I0, Q1, I1, lo0, hi0, lo1, hi1, hr, hx, hy, _⟩ := unhide HT3
  have hx := hx.pe
  have hy := hy.pe
  obtain ⟨A0, r0, C0, r1, e0⟩ := hx.slices
  obtain ⟨A1, r2, C1, r3, e1⟩ := hy.slices
  obtain ⟨A2, r4, C2, r5, e2⟩ := hx9.slices
  obtain ⟨A3, r6, C3, r7, e3⟩ := hy9.slices
  obtain ⟨rfl, rfl⟩ := peA_inj e0
  obtain ⟨rfl, rfl⟩ := peA_inj e1
  obtain ⟨rfl, rfl⟩ := peA_inj e2
  obtain ⟨rfl, rfl⟩ := peA_inj e3
  have HOKS := hide (run_ok al)
  have K14 : Hid (∀ W, Below w3.heap.size w3 W → Calls Try.prog 14 #[.slice (some ⟨cb, 0, none⟩) al.length al.length, .slice Bv al.length cB] W fun e w' => e = .returned (.bool true) ∧ Below W.heap.size W w') := hide (fun W h => same14 _ _ (codesF al tw0) W (by have := (intO_ints (c := al.length) (unhide HC3)).below h; rwa [codesF_len] at this) ((unhide HO3).2.below h) (by rw [codesF_len]; have := unhide HL6; omega))
  have K15a := hide (fun W (h : Below w3.heap.size w3 W) => same15 _ _ _ W (hx.below h) (hx9.below h) (ok_few' (unhide HOKS).1))
  have K15b := hide (fun W (h : Below w3.heap.size w3 W) => same15 _ _ _ W (hy.below h) (hy9.below h) (ok_few' (unhide HOKS).2))
  have R8 := hide (fun W (h : Below w3.heap.size w3 W) => (hr.below h).cells)
  have R9 := hide (fun W (h : Below w3.heap.size w3 W) => (hr9.below h).cells)
  have HVX := hide hx
  have HVY := hide hy
  have HAC : Hid (∀ i, i < al.length → ∃ b o, Av = some ⟨b, o, none⟩ ∧ ∀ W, Below w3.heap.size w3 W → AC b (o + i * 5) (al.getD i ta0) W) := hide (fun i hi => by
    obtain ⟨A', c', e', h'⟩ := unhide HV3
    injection e' with e' _ _
    obtain ⟨b, o, hb, hlt, hc⟩ := h' (by omega)
    exact ⟨b, o, e'.trans hb, fun W h => (hc i hi).below h hlt⟩)
  have HCD : Hid (∀ i, i < al.length → ∀ W, Below w3.heap.size w3 W → W.cell? ⟨cb, i, none⟩ = some (.int .i64 ((codesF al tw0).getD i 0))) := hide (fun i hi W h => by
    obtain ⟨A', c', e', h'⟩ := (intO_ints (c := al.length) (unhide HC3)).below h
    rw [codesF_len] at h'
    injection e' with e' _ _
    obtain ⟨b, o, hb, _, hc⟩ := h' (by omega)
    rw [hb] at e'
    injection e' with e'
    injection e' with e1 e2 _
    have := hc i hi
    rwa [← e1, ← e2, Nat.zero_add] at this)
  clear hr hx hy hr9 hx9 hy9 e0 e1 e2 e3 HT3 HC3 HO3 HV3 HV HTK B2 B1 K12 K13
  generalize hX : (runF al tw0).x = X at *
  generalize hY : (runF al tw0).y = Y at *
  generalize hNN : al.length = NN at *
  have HXx := hide hX.symm
  have HXy := hide hY.symm
  have HNN := hide hNN.symm
  clear hX hY hNN
  go_wp2_with fail
  refine wp_region_held (S := fun W' => Below w3.heap.size w3 W') (by kernel_rfl) ?_
  have hS0 : Below w3.heap.size w3 { w3 with drawn := w3.drawn + 1 } := below_drewN (Below.refl _ _) 1
  obtain ⟨w4, hw4⟩ : ∃ x, x = ({ w3 with drawn := w3.drawn + 1 } : World) := ⟨_, rfl⟩
  rw [← hw4] at hS0 ⊢
  clear hw4
  refine wpAnyH_take (i := 0) (oi := { dst := some 33, op := Op.move (Operand.tmp 6), type := 3, pos := "laws.go:1093", after := #[], guard := none }) (v := ?_) rfl (by kernel_rfl) (by kernel_rfl) (by kernel_rfl) (fun _ _ _ h => h) (Or.inl ⟨by rfl, ?_⟩) hS0 ?_
  rotate_left
  · intro W hSw
    go_simp
    try with_reducible rfl
  simp only [Act.put, List.setIfInBounds_toArray, List.set_cons_zero, List.set_cons_succ]
  refine wpAnyH_take (i := 1) (oi := { dst := some 34, op := Op.binOp BinOp.neq 3 (Operand.tmp 33) (Operand.const (Value.int IntKind.i64 0)) 3, type := 4, pos := "laws.go:1093", after := #[{ on := 0, ground := Ground.data }], guard := none }) (v := ?_) rfl (by kernel_rfl) (by kernel_rfl) (by kernel_rfl) (fun _ _ _ h => h) (Or.inl ⟨by rfl, ?_⟩) hS0 ?_
  rotate_left
  · intro W hSw
    go_simp
    try with_reducible rfl
  simp only [Act.put, List.setIfInBounds_toArray, List.set_cons_zero, List.set_cons_succ]
  refine wpAnyH_take (i := 2) (oi := { dst := some 35, op := Op.move (Operand.tmp 34), type := 4, pos := "laws.go:1093", after := #[{ on := 1, ground := Ground.data }], guard := none }) (v := ?_) rfl (by kernel_rfl) (by kernel_rfl) (by kernel_rfl) (fun _ _ _ h => h) (Or.inl ⟨by rfl, ?_⟩) hS0 ?_
  rotate_left
  · intro W hSw
    go_simp
    try with_reducible rfl
  simp only [Act.put, List.setIfInBounds_toArray, List.set_cons_zero, List.set_cons_succ]
  refine wpAnyH_take (i := 3) (oi := { dst := some 36, op := Op.move (Operand.tmp 5), type := 26, pos := "laws.go:1093", after := #[{ on := 2, ground := Ground.guard }], guard := some (2, false) }) (v := ?_) rfl (by kernel_rfl) (by kernel_rfl) (by kernel_rfl) (fun _ _ _ h => h) (Or.inl ⟨by rfl, ?_⟩) hS0 ?_
  rotate_left
  · intro W hSw
    go_simp
    try with_reducible rfl
  simp only [Act.put, List.setIfInBounds_toArray, List.set_cons_zero, List.set_cons_succ]
  refine wpAnyH_take (i := 4) (oi := { dst := some 37, op := Op.move (Operand.tmp 8), type := 26, pos := "laws.go:1093", after := #[{ on := 2, ground := Ground.guard }], guard := some (2, false) }) (v := ?_) rfl (by kernel_rfl) (by kernel_rfl) (by kernel_rfl) (fun _ _ _ h => h) (Or.inl ⟨by rfl, ?_⟩) hS0 ?_
  rotate_left
  · intro W hSw
    go_simp
    try with_reducible rfl
  simp only [Act.put, List.setIfInBounds_toArray, List.set_cons_zero, List.set_cons_succ]
  refine wpAnyH_one (i := 5) (by kernel_rfl) ?_
  refine wpOp_step (o := { dst := some 38, op := Op.call { callee := Callee.value (Operand.func 14), args := #[Operand.tmp 36, Operand.tmp 37], argTypes := #[26, 26] }, type := 4, pos := "laws.go:1093", after := #[{ on := 3, ground := Ground.data }, { on := 4, ground := Ground.data }, { on := 2, ground := Ground.chain }, { on := 2, ground := Ground.guard }], guard := some (2, false) }) rfl fun K' hK => step_enterW (by rfl) 14 #[.slice (some ⟨cb, 0, none⟩) NN NN, .slice Bv NN cB] (by go_simp) ((unhide K14 _ hS0).mono ?_)
  rintro e w5 ⟨rfl, b5⟩
  have s5 := bl_st b5 hS0
  clear b5

  refine ⟨_, rfl, hK _ _ ⟨s5, ?_⟩⟩
  simp only [Act.put, List.setIfInBounds_toArray, List.set_cons_zero, List.set_cons_succ]
  refine wpAnyH_take (i := 6) (oi := { dst := some 39, op := Op.unOp UnOp.not 4 (Operand.tmp 38), type := 4, pos := "laws.go:1093", after := #[{ on := 5, ground := Ground.data }, { on := 2, ground := Ground.guard }], guard := some (2, false) }) (v := ?_) rfl (by kernel_rfl) (by kernel_rfl) (by kernel_rfl) (fun _ _ _ h => h) (Or.inl ⟨by rfl, ?_⟩) s5 ?_
  rotate_left
  · intro W hSw
    go_simp
    try with_reducible rfl
  simp only [Act.put, List.setIfInBounds_toArray, List.set_cons_zero, List.set_cons_succ]
  refine wpAnyH_take (i := 7) (oi := { dst := some 40, op := Op.pick (Operand.tmp 35) (Operand.const (Value.bool true)) (Operand.tmp 39), type := 4, pos := "laws.go:1093", after := #[{ on := 2, ground := Ground.data }, { on := 6, ground := Ground.data }], guard := none }) (v := ?_) rfl (by kernel_rfl) (by kernel_rfl) (by kernel_rfl) (fun _ _ _ h => h) (Or.inl ⟨by rfl, ?_⟩) s5 ?_
  rotate_left
  · intro W hSw
    go_simp
    try with_reducible rfl
  simp only [Act.put, List.setIfInBounds_toArray, List.set_cons_zero, List.set_cons_succ]
  refine wpAnyH_take (i := 8) (oi := { dst := some 41, op := Op.move (Operand.tmp 40), type := 4, pos := "laws.go:1093", after := #[{ on := 7, ground := Ground.data }, { on := 5, ground := Ground.chain }], guard := none }) (v := ?_) rfl (by kernel_rfl) (by kernel_rfl) (by kernel_rfl) (fun _ _ _ h => h) (Or.inl ⟨by rfl, ?_⟩) s5 ?_
  rotate_left
  · intro W hSw
    go_simp
    try with_reducible rfl
  simp only [Act.put, List.setIfInBounds_toArray, List.set_cons_zero, List.set_cons_succ]
  refine wpAnyH_take (i := 9) (oi := { dst := some 42, op := Op.move (Operand.tmp 4), type := 25, pos := "laws.go:1093", after := #[{ on := 8, ground := Ground.guard }], guard := some (8, false) }) (v := ?_) rfl (by kernel_rfl) (by kernel_rfl) (by kernel_rfl) (fun _ _ _ h => h) (Or.inl ⟨by rfl, ?_⟩) s5 ?_
  rotate_left
  · intro W hSw
    go_simp
    try with_reducible rfl
  simp only [Act.put, List.setIfInBounds_toArray, List.set_cons_zero, List.set_cons_succ]
  refine wpAnyH_take (i := 10) (oi := { dst := some 43, op := Op.call { callee := Callee.builtin Builtin.len, args := #[Operand.tmp 42], argTypes := #[25] }, type := 3, pos := "laws.go:1093", after := #[{ on := 9, ground := Ground.data }, { on := 8, ground := Ground.guard }], guard := some (8, false) }) (v := ?_) rfl (by kernel_rfl) (by kernel_rfl) (by kernel_rfl) (fun _ _ _ h => h) (Or.inl ⟨by rfl, ?_⟩) s5 ?_
  rotate_left
  · intro W hSw
    go_simp
    try with_reducible rfl
  simp only [Act.put, List.setIfInBounds_toArray, List.set_cons_zero, List.set_cons_succ]
  refine wpAnyH_take (i := 11) (oi := { dst := some 44, op := Op.binOp BinOp.neq 3 (Operand.tmp 43) (Operand.const (Value.int IntKind.i64 2)) 3, type := 4, pos := "laws.go:1093", after := #[{ on := 10, ground := Ground.data }, { on := 8, ground := Ground.guard }], guard := some (8, false) }) (v := ?_) rfl (by kernel_rfl) (by kernel_rfl) (by kernel_rfl) (fun _ _ _ h => h) (Or.inl ⟨by rfl, ?_⟩) s5 ?_
  rotate_left
  · intro W hSw
    go_simp
    try with_reducible rfl
  simp only [Act.put, List.setIfInBounds_toArray, List.set_cons_zero, List.set_cons_succ]
  refine wpAnyH_take (i := 12) (oi := { dst := some 45, op := Op.pick (Operand.tmp 41) (Operand.const (Value.bool true)) (Operand.tmp 44), type := 4, pos := "laws.go:1093", after := #[{ on := 8, ground := Ground.data }, { on := 11, ground := Ground.data }], guard := none }) (v := ?_) rfl (by kernel_rfl) (by kernel_rfl) (by kernel_rfl) (fun _ _ _ h => h) (Or.inl ⟨by rfl, ?_⟩) s5 ?_
  rotate_left
  · intro W hSw
    go_simp
    try with_reducible rfl
  simp only [Act.put, List.setIfInBounds_toArray, List.set_cons_zero, List.set_cons_succ]
  refine wpAnyH_take (i := 13) (oi := { dst := some 46, op := Op.move (Operand.tmp 45), type := 4, pos := "laws.go:1093", after := #[{ on := 12, ground := Ground.data }, { on := 8, ground := Ground.chain }], guard := none }) (v := ?_) rfl (by kernel_rfl) (by kernel_rfl) (by kernel_rfl) (fun _ _ _ h => h) (Or.inl ⟨by rfl, ?_⟩) s5 ?_
  rotate_left
  · intro W hSw
    go_simp
    try with_reducible rfl
  simp only [Act.put, List.setIfInBounds_toArray, List.set_cons_zero, List.set_cons_succ]
  refine wpAnyH_take (i := 14) (oi := { dst := some 47, op := Op.move (Operand.tmp 4), type := 25, pos := "laws.go:1093", after := #[{ on := 13, ground := Ground.guard }], guard := some (13, false) }) (v := ?_) rfl (by kernel_rfl) (by kernel_rfl) (by kernel_rfl) (fun _ _ _ h => h) (Or.inl ⟨by rfl, ?_⟩) s5 ?_
  rotate_left
  · intro W hSw
    go_simp
    try with_reducible rfl
  simp only [Act.put, List.setIfInBounds_toArray, List.set_cons_zero, List.set_cons_succ]
  refine wpAnyH_take (i := 15) (oi := { dst := some 48, op := Op.indexAddr 25 (Operand.tmp 47) (Operand.const (Value.int IntKind.i64 0)), type := 0, pos := "laws.go:1093", after := #[{ on := 14, ground := Ground.data }, { on := 13, ground := Ground.guard }], guard := some (13, false) }) (v := ?_) rfl (by kernel_rfl) (by kernel_rfl) (by kernel_rfl) (fun _ _ _ h => h) (Or.inl ⟨by rfl, ?_⟩) s5 ?_
  rotate_left
  · intro W hSw
    go_simp
    try with_reducible rfl
  simp only [Act.put, List.setIfInBounds_toArray, List.set_cons_zero, List.set_cons_succ]
  refine wpAnyH_take (i := 16) (oi := { dst := some 49, op := Op.load 33 (Operand.tmp 48), type := 33, pos := "laws.go:1093", after := #[{ on := 15, ground := Ground.data }, { on := 13, ground := Ground.guard }], guard := some (13, false) }) (v := ?_) rfl (by kernel_rfl) (by kernel_rfl) (by kernel_rfl) (fun _ _ _ h => h) (Or.inl ⟨by rfl, ?_⟩) s5 ?_
  rotate_left
  · intro W hSw
    obtain ⟨c0, c1, c2, c3, c4, c5, c6, c7⟩ := unhide R8 W hSw
    obtain ⟨d0, d1, d2, d3, d4, d5, d6, d7⟩ := unhide R9 W hSw
    go_simp
    try with_reducible rfl
  simp only [Act.put, List.setIfInBounds_toArray, List.set_cons_zero, List.set_cons_succ]
  refine wpAnyH_take (i := 17) (oi := { dst := some 50, op := Op.move (Operand.tmp 7), type := 25, pos := "laws.go:1093", after := #[{ on := 13, ground := Ground.guard }], guard := some (13, false) }) (v := ?_) rfl (by kernel_rfl) (by kernel_rfl) (by kernel_rfl) (fun _ _ _ h => h) (Or.inl ⟨by rfl, ?_⟩) s5 ?_
  rotate_left
  · intro W hSw
    go_simp
    try with_reducible rfl
  simp only [Act.put, List.setIfInBounds_toArray, List.set_cons_zero, List.set_cons_succ]
  refine wpAnyH_take (i := 18) (oi := { dst := some 51, op := Op.indexAddr 25 (Operand.tmp 50) (Operand.const (Value.int IntKind.i64 0)), type := 0, pos := "laws.go:1093", after := #[{ on := 17, ground := Ground.data }, { on := 13, ground := Ground.guard }], guard := some (13, false) }) (v := ?_) rfl (by kernel_rfl) (by kernel_rfl) (by kernel_rfl) (fun _ _ _ h => h) (Or.inl ⟨by rfl, ?_⟩) s5 ?_
  rotate_left
  · intro W hSw
    go_simp
    try with_reducible rfl
  simp only [Act.put, List.setIfInBounds_toArray, List.set_cons_zero, List.set_cons_succ]
  refine wpAnyH_take (i := 19) (oi := { dst := some 52, op := Op.load 33 (Operand.tmp 51), type := 33, pos := "laws.go:1093", after := #[{ on := 18, ground := Ground.data }, { on := 13, ground := Ground.guard }], guard := some (13, false) }) (v := ?_) rfl (by kernel_rfl) (by kernel_rfl) (by kernel_rfl) (fun _ _ _ h => h) (Or.inl ⟨by rfl, ?_⟩) s5 ?_
  rotate_left
  · intro W hSw
    obtain ⟨c0, c1, c2, c3, c4, c5, c6, c7⟩ := unhide R8 W hSw
    obtain ⟨d0, d1, d2, d3, d4, d5, d6, d7⟩ := unhide R9 W hSw
    go_simp
    try with_reducible rfl
  simp only [Act.put, List.setIfInBounds_toArray, List.set_cons_zero, List.set_cons_succ]
  refine wpAnyH_one (i := 20) (by kernel_rfl) ?_
  refine wpOp_step (o := { dst := some 53, op := Op.call { callee := Callee.value (Operand.func 15), args := #[Operand.tmp 49, Operand.tmp 52], argTypes := #[33, 33] }, type := 4, pos := "laws.go:1093", after := #[{ on := 16, ground := Ground.data }, { on := 19, ground := Ground.data }, { on := 13, ground := Ground.chain }, { on := 13, ground := Ground.guard }], guard := some (13, false) }) rfl fun K' hK => step_enterW (by rfl) 15 #[peA (.slice A0 X.q.length r0) X.s X.e (.slice C0 X.i.length r1), peA (.slice A2 X.q.length r4) X.s X.e (.slice C2 X.i.length r5)] (by go_simp) ((unhide K15a _ s5).mono ?_)
  rintro e w6 ⟨rfl, b6⟩
  have s6 := bl_st b6 s5
  clear b6

  refine ⟨_, rfl, hK _ _ ⟨s6, ?_⟩⟩
  simp only [Act.put, List.setIfInBounds_toArray, List.set_cons_zero, List.set_cons_succ]
  refine wpAnyH_take (i := 21) (oi := { dst := some 54, op := Op.unOp UnOp.not 4 (Operand.tmp 53), type := 4, pos := "laws.go:1093", after := #[{ on := 20, ground := Ground.data }, { on := 13, ground := Ground.guard }], guard := some (13, false) }) (v := ?_) rfl (by kernel_rfl) (by kernel_rfl) (by kernel_rfl) (fun _ _ _ h => h) (Or.inl ⟨by rfl, ?_⟩) s6 ?_
  rotate_left
  · intro W hSw
    go_simp
    try with_reducible rfl
  simp only [Act.put, List.setIfInBounds_toArray, List.set_cons_zero, List.set_cons_succ]
  refine wpAnyH_take (i := 22) (oi := { dst := some 55, op := Op.pick (Operand.tmp 46) (Operand.const (Value.bool true)) (Operand.tmp 54), type := 4, pos := "laws.go:1093", after := #[{ on := 13, ground := Ground.data }, { on := 21, ground := Ground.data }], guard := none }) (v := ?_) rfl (by kernel_rfl) (by kernel_rfl) (by kernel_rfl) (fun _ _ _ h => h) (Or.inl ⟨by rfl, ?_⟩) s6 ?_
  rotate_left
  · intro W hSw
    go_simp
    try with_reducible rfl
  simp only [Act.put, List.setIfInBounds_toArray, List.set_cons_zero, List.set_cons_succ]
  refine wpAnyH_take (i := 23) (oi := { dst := some 56, op := Op.move (Operand.tmp 55), type := 4, pos := "laws.go:1093", after := #[{ on := 22, ground := Ground.data }, { on := 20, ground := Ground.chain }], guard := none }) (v := ?_) rfl (by kernel_rfl) (by kernel_rfl) (by kernel_rfl) (fun _ _ _ h => h) (Or.inl ⟨by rfl, ?_⟩) s6 ?_
  rotate_left
  · intro W hSw
    go_simp
    try with_reducible rfl
  simp only [Act.put, List.setIfInBounds_toArray, List.set_cons_zero, List.set_cons_succ]
  refine wpAnyH_take (i := 24) (oi := { dst := some 57, op := Op.move (Operand.tmp 4), type := 25, pos := "laws.go:1093", after := #[{ on := 23, ground := Ground.guard }], guard := some (23, false) }) (v := ?_) rfl (by kernel_rfl) (by kernel_rfl) (by kernel_rfl) (fun _ _ _ h => h) (Or.inl ⟨by rfl, ?_⟩) s6 ?_
  rotate_left
  · intro W hSw
    go_simp
    try with_reducible rfl
  simp only [Act.put, List.setIfInBounds_toArray, List.set_cons_zero, List.set_cons_succ]
  refine wpAnyH_take (i := 25) (oi := { dst := some 58, op := Op.indexAddr 25 (Operand.tmp 57) (Operand.const (Value.int IntKind.i64 1)), type := 0, pos := "laws.go:1093", after := #[{ on := 24, ground := Ground.data }, { on := 23, ground := Ground.guard }], guard := some (23, false) }) (v := ?_) rfl (by kernel_rfl) (by kernel_rfl) (by kernel_rfl) (fun _ _ _ h => h) (Or.inl ⟨by rfl, ?_⟩) s6 ?_
  rotate_left
  · intro W hSw
    go_simp
    try with_reducible rfl
  simp only [Act.put, List.setIfInBounds_toArray, List.set_cons_zero, List.set_cons_succ]
  refine wpAnyH_take (i := 26) (oi := { dst := some 59, op := Op.load 33 (Operand.tmp 58), type := 33, pos := "laws.go:1093", after := #[{ on := 25, ground := Ground.data }, { on := 23, ground := Ground.guard }], guard := some (23, false) }) (v := ?_) rfl (by kernel_rfl) (by kernel_rfl) (by kernel_rfl) (fun _ _ _ h => h) (Or.inl ⟨by rfl, ?_⟩) s6 ?_
  rotate_left
  · intro W hSw
    obtain ⟨c0, c1, c2, c3, c4, c5, c6, c7⟩ := unhide R8 W hSw
    obtain ⟨d0, d1, d2, d3, d4, d5, d6, d7⟩ := unhide R9 W hSw
    go_simp
    try with_reducible rfl
  simp only [Act.put, List.setIfInBounds_toArray, List.set_cons_zero, List.set_cons_succ]
  refine wpAnyH_take (i := 27) (oi := { dst := some 60, op := Op.move (Operand.tmp 7), type := 25, pos := "laws.go:1093", after := #[{ on := 23, ground := Ground.guard }], guard := some (23, false) }) (v := ?_) rfl (by kernel_rfl) (by kernel_rfl) (by kernel_rfl) (fun _ _ _ h => h) (Or.inl ⟨by rfl, ?_⟩) s6 ?_
  rotate_left
  · intro W hSw
    go_simp
    try with_reducible rfl
  simp only [Act.put, List.setIfInBounds_toArray, List.set_cons_zero, List.set_cons_succ]
  refine wpAnyH_take (i := 28) (oi := { dst := some 61, op := Op.indexAddr 25 (Operand.tmp 60) (Operand.const (Value.int IntKind.i64 1)), type := 0, pos := "laws.go:1093", after := #[{ on := 27, ground := Ground.data }, { on := 23, ground := Ground.guard }], guard := some (23, false) }) (v := ?_) rfl (by kernel_rfl) (by kernel_rfl) (by kernel_rfl) (fun _ _ _ h => h) (Or.inl ⟨by rfl, ?_⟩) s6 ?_
  rotate_left
  · intro W hSw
    go_simp
    try with_reducible rfl
  simp only [Act.put, List.setIfInBounds_toArray, List.set_cons_zero, List.set_cons_succ]
  refine wpAnyH_take (i := 29) (oi := { dst := some 62, op := Op.load 33 (Operand.tmp 61), type := 33, pos := "laws.go:1093", after := #[{ on := 28, ground := Ground.data }, { on := 23, ground := Ground.guard }], guard := some (23, false) }) (v := ?_) rfl (by kernel_rfl) (by kernel_rfl) (by kernel_rfl) (fun _ _ _ h => h) (Or.inl ⟨by rfl, ?_⟩) s6 ?_
  rotate_left
  · intro W hSw
    obtain ⟨c0, c1, c2, c3, c4, c5, c6, c7⟩ := unhide R8 W hSw
    obtain ⟨d0, d1, d2, d3, d4, d5, d6, d7⟩ := unhide R9 W hSw
    go_simp
    try with_reducible rfl
  simp only [Act.put, List.setIfInBounds_toArray, List.set_cons_zero, List.set_cons_succ]
  refine wpAnyH_one (i := 30) (by kernel_rfl) ?_
  refine wpOp_step (o := { dst := some 63, op := Op.call { callee := Callee.value (Operand.func 15), args := #[Operand.tmp 59, Operand.tmp 62], argTypes := #[33, 33] }, type := 4, pos := "laws.go:1093", after := #[{ on := 26, ground := Ground.data }, { on := 29, ground := Ground.data }, { on := 23, ground := Ground.chain }, { on := 23, ground := Ground.guard }], guard := some (23, false) }) rfl fun K' hK => step_enterW (by rfl) 15 #[peA (.slice A1 Y.q.length r2) Y.s Y.e (.slice C1 Y.i.length r3), peA (.slice A3 Y.q.length r6) Y.s Y.e (.slice C3 Y.i.length r7)] (by go_simp) ((unhide K15b _ s6).mono ?_)
  rintro e w7 ⟨rfl, b7⟩
  have s7 := bl_st b7 s6
  clear b7

  refine ⟨_, rfl, hK _ _ ⟨s7, ?_⟩⟩
  simp only [Act.put, List.setIfInBounds_toArray, List.set_cons_zero, List.set_cons_succ]
  refine wpAnyH_take (i := 31) (oi := { dst := some 64, op := Op.unOp UnOp.not 4 (Operand.tmp 63), type := 4, pos := "laws.go:1093", after := #[{ on := 30, ground := Ground.data }, { on := 23, ground := Ground.guard }], guard := some (23, false) }) (v := ?_) rfl (by kernel_rfl) (by kernel_rfl) (by kernel_rfl) (fun _ _ _ h => h) (Or.inl ⟨by rfl, ?_⟩) s7 ?_
  rotate_left
  · intro W hSw
    go_simp
    try with_reducible rfl
  simp only [Act.put, List.setIfInBounds_toArray, List.set_cons_zero, List.set_cons_succ]
  refine wpAnyH_take (i := 32) (oi := { dst := some 65, op := Op.pick (Operand.tmp 56) (Operand.const (Value.bool true)) (Operand.tmp 64), type := 4, pos := "laws.go:1093", after := #[{ on := 23, ground := Ground.data }, { on := 31, ground := Ground.data }], guard := none }) (v := ?_) rfl (by kernel_rfl) (by kernel_rfl) (by kernel_rfl) (fun _ _ _ h => h) (Or.inl ⟨by rfl, ?_⟩) s7 ?_
  rotate_left
  · intro W hSw
    go_simp
    try with_reducible rfl
  simp only [Act.put, List.setIfInBounds_toArray, List.set_cons_zero, List.set_cons_succ]
  refine wpAnyH_done (by kernel_rfl) ?_ _
  have B7 := hide (bl_st s7 (unhide B3))
  have S7 := hide s7
  clear hS0 s5 s6 s7 K14 K15a K15b
  have K16x : Hid (∀ W, Below w3.heap.size w3 W → Calls Try.prog 16 #[peA (.slice A0 X.q.length r0) X.s X.e (.slice C0 X.i.length r1)] W fun e w' => e = .returned (.bool true) ∧ Below W.heap.size W w') := hide (fun W h => by have := ok16 _ _ W ((unhide HVX).below h) (ok_few' (unhide HOKS).1); rwa [(unhide HOKS).1] at this)
  have K16y : Hid (∀ W, Below w3.heap.size w3 W → Calls Try.prog 16 #[peA (.slice A1 Y.q.length r2) Y.s Y.e (.slice C1 Y.i.length r3)] W fun e w' => e = .returned (.bool true) ∧ Below W.heap.size W w') := hide (fun W h => by have := ok16 _ _ W ((unhide HVY).below h) (ok_few' (unhide HOKS).2); rwa [(unhide HOKS).2] at this)
  have HFWx := hide (ok_few' (unhide HOKS).1)
  have HFWy := hide (ok_few' (unhide HOKS).2)
  have HPx := hide (peV_is (unhide HVX))
  have HPy := hide (peV_is (unhide HVY))
  clear R9 HVX HVY HOKS B7
  go_wp2_with fail
  go_loopw [10] (fun iv wo => ∃ j : Nat, j ≤ 2 ∧ iv = .int .i64 j ∧ Below w3.heap.size w3 wo) (fun iv _ => 2 - (intOf iv).toNat)
  case atStart => exact ⟨0, by omega, rfl, unhide S7⟩
  case round =>
    rename World => wo
    obtain ⟨j, hj, rfl, hbo⟩ := hrel
    have HBO := hide hbo
    clear hbo S7
    rcases (by omega : j = 0 ∨ j = 1 ∨ j = 2) with rfl | rfl | rfl
    · clear hj
      rw [show ((0 : Nat) : Int) = 0 from rfl]
      have HO0 : Hid ((wo.alloc (.cells #[] 9)).ownsRow wo.heap.size 9 1 (.slice (some ⟨wo.heap.size, 0, none⟩) 0 0) 0 (([] : List ByteArray).map Value.string)) := hide ⟨rfl, .inr ⟨wo.heap.size, 0, #[], rfl, Nat.le_refl _, heap_alloc_new wo _, Nat.le_refl _, by unfold maxLen; omega, rfl, rfl⟩⟩
      go_wp2_with fail
      generalize hw9 : wo.alloc (.cells #[] 9) = w9 at *
      have HB9 : Hid (Below wo.heap.size wo w9) := hide (by rw [← hw9]; exact bl_al (Below.refl _ _))
      clear hw9
      go_loopw [11, 12] (fun s iv wr => ∃ i g c : Nat, i ≤ NN ∧ iv = .int .i64 i ∧ s = .slice (some ⟨g, 0, none⟩) (saidF 0 (al.take i) tw0).length c ∧ wr.ownsRow wo.heap.size 9 1 (.slice (some ⟨g, 0, none⟩) (saidF 0 (al.take i) tw0).length c) (saidF 0 (al.take i) tw0).length ((saidF 0 (al.take i) tw0).map Value.string) ∧ Below wo.heap.size wo wr) (fun _ iv _ => NN - (intOf iv).toNat)
      case atStart => exact ⟨0, wo.heap.size, 0, by omega, rfl, rfl, unhide HO0, unhide HB9⟩
      case round =>
        obtain ⟨i, g, c, hi, rfl, rfl, how, hbw⟩ := hrel
        have HOW := hide how
        have HBW := hide hbw
        have HLN : Hid ((saidF 0 (al.take i) tw0).length ≤ 60) := hide (by have := said_len 0 (al.take i) tw0; have := unhide HL6; simp at *; omega)
        generalize hln : (saidF 0 (al.take i) tw0).length = ln at *
        clear how hbw HO0 HB9
        rcases Nat.lt_or_ge i NN with hlt | hge
        · have q1 : (i : Int) < (NN : Int) := by omega
          have q0 : (0 : Int) ≤ (i : Int) := by omega
          have qN : (NN : Int) ≤ 60 := by have := unhide HL6; omega
          obtain ⟨b0, o0, hA0, aC⟩ := unhide HAC i hlt
          subst hA0
          have aC := aC wr (bl_st (unhide HBW) (unhide HBO))
          obtain ⟨a0, a1, a2, _, _⟩ := aC
          have ci := unhide HCD i hlt wr (bl_st (unhide HBW) (unhide HBO))
          have HS := hide (said_step (al := al) (who := 0) (j := i) (by have := unhide HNN; omega))
          have HLT := hide hlt
          clear hlt hi
          generalize (al.getD i ta0).k = ak at *
          generalize (al.getD i ta0).w = aw at *
          generalize (al.getD i ta0).t = tt at *
          generalize (codesF al tw0).getD i 0 = cj at *
          by_cases h1 : ak = 1
          · by_cases h2 : aw = 0
            · by_cases h3 : cj = 0
              · have HST : Hid (saidF 0 (al.take (i + 1)) tw0 = saidF 0 (al.take i) tw0 ++ [tt]) := hide (by rw [unhide HS, if_pos ⟨h1, h2, h3⟩])
                clear HS
                have q3 : ak = 1 := h1
                have q4 : aw = 0 := h2
                have q5 : cj = 0 := h3
                subst q3 q4 q5
                clear h1 h2 h3
                go_wp2_with (at_builtin; refine wpList_push wr rfl _ _ rfl wo.heap.size ln g c (saidF 0 (al.take i) tw0) rfl (unhide HOW) wr.heap.size rfl tt rfl (by have := unhide HLN; omega) (unhide HBW).size ?_; intro g3 c3 wp pu; have HOP := hide pu.row; have HBP := hide (pu.be _ _ (unhide HBW) (Nat.le_refl _) (unhide HBW).size); clear pu)
                have e9 : (saidF 0 (al.take (i + 1)) tw0).length = ln + 1 := by rw [unhide HST, List.length_append, hln]; rfl
                go_roundw
                case rel => exact ⟨i + 1, g3, c3, by have := unhide HLT; omega, by go_num, by rw [e9], by rw [e9, unhide HST]; exact unhide HOP, unhide HBP⟩
                case measure => have := unhide HLT; simp [intOf]; omega
              · have HST : Hid (saidF 0 (al.take (i + 1)) tw0 = saidF 0 (al.take i) tw0) := hide (by rw [unhide HS, if_neg (fun c => h3 c.2.2)]; exact List.append_nil _)
                clear HS
                have q3 : ak = 1 := h1
                have q4 : aw = 0 := h2
                subst q3 q4
                have q5 : ¬ cj = 0 := h3
                have q5b : (cj == 0) = false := by simp; exact h3
                clear h1 h2 h3
                go_wp2_with fail
                go_roundw
                case rel => exact ⟨i + 1, g, c, by have := unhide HLT; omega, by go_num, by rw [unhide HST, hln], by rw [unhide HST, hln]; exact unhide HOW, unhide HBW⟩
                case measure => have := unhide HLT; simp [intOf]; omega
            · have HST : Hid (saidF 0 (al.take (i + 1)) tw0 = saidF 0 (al.take i) tw0) := hide (by rw [unhide HS, if_neg (fun c => h2 c.2.1)]; exact List.append_nil _)
              clear HS
              have q3 : ak = 1 := h1
              subst q3
              have q4 : ¬ aw = 0 := h2
              have q4b : (aw == 0) = false := by simp; exact h2
              clear h1 h2
              go_wp2_with fail
              go_roundw
              case rel => exact ⟨i + 1, g, c, by have := unhide HLT; omega, by go_num, by rw [unhide HST, hln], by rw [unhide HST, hln]; exact unhide HOW, unhide HBW⟩
              case measure => have := unhide HLT; simp [intOf]; omega
          · have HST : Hid (saidF 0 (al.take (i + 1)) tw0 = saidF 0 (al.take i) tw0) := hide (by rw [unhide HS, if_neg (fun c => h1 c.1)]; exact List.append_nil _)
            clear HS
            have q3 : ¬ ak = 1 := h1
            have q3b : (ak == 1) = false := by simp; exact h1
            clear h1
            go_wp2_with fail
            go_roundw
            case rel => exact ⟨i + 1, g, c, by have := unhide HLT; omega, by go_num, by rw [unhide HST, hln], by rw [unhide HST, hln]; exact unhide HOW, unhide HBW⟩
            case measure => have := unhide HLT; simp [intOf]; omega
        · obtain rfl : i = NN := by omega
          have HAL : Hid (saidF 0 (al.take i) tw0 = saidF 0 al tw0) := hide (by rw [unhide HNN, List.take_length])
          rw [unhide HAL] at HOW hln
          have HSU : Hid (Y.i.Sublist (saidF 0 al tw0)) := hide (by rw [unhide HXy]; exact heard0 al)
          have HSV : Hid (strsV wr (.slice (some ⟨g, 0, none⟩) ln c) (saidF 0 al tw0)) := hide (own_strs hln (unhide HOW))
          have HHV : Hid (strsV wr (.slice C1 Y.i.length r3) Y.i) := hide (((unhide HPy).below (bl_st (unhide HBW) (unhide HBO))))
          obtain ⟨c0, c1, c2, c3, c4, c5, c6, c7⟩ := unhide R8 wr (bl_st (unhide HBW) (unhide HBO))
          clear hge hi HOW HAL
          generalize saidF 0 al tw0 = sd at *
          go_wp2_with fail
          clear c0 c1 c2 c3 c4 c5 c6 c7
          go_loopw [14, 15] (fun kv iv wx => ∃ i k : Nat, i ≤ Y.i.length ∧ iv = .int .i64 i ∧ kv = .int .i64 k ∧ (Y.i.drop i).Sublist (sd.drop k) ∧ k ≤ ln ∧ Below wr.heap.size wr wx) (fun _ iv _ => Y.i.length - (intOf iv).toNat)
          case atStart => exact ⟨0, 0, by omega, rfl, rfl, unhide HSU, by omega, Below.refl _ _⟩
          case round =>
            rename World => wx
            obtain ⟨i2, k, hi2, rfl, rfl, hsub, hkl, hbx⟩ := hrel
            have HSB := hide hsub
            have HBX := hide hbx
            clear hsub hbx
            rcases Nat.lt_or_ge i2 Y.i.length with hlt | hge
            · have q1 : (i2 : Int) < (Y.i.length : Int) := by omega
              have q0 : (0 : Int) ≤ (i2 : Int) := by omega
              have qH : (Y.i.length : Int) ≤ 1048576 := by have := (unhide HFWy).2; omega
              have qL : (ln : Int) ≤ 60 := by have := unhide HLN; omega
              have HLT := hide hlt
              have HKL := hide hkl
              clear hlt hi2 hkl
              go_wp2_with fail
              go_loopw [14] (fun kv wy => ∃ k : Nat, kv = .int .i64 k ∧ (Y.i.drop i2).Sublist (sd.drop k) ∧ k ≤ ln ∧ Below wr.heap.size wr wy) (fun kv _ => ln - (intOf kv).toNat)
              case atStart => exact ⟨k, rfl, unhide HSB, unhide HKL, unhide HBX⟩
              case round =>
                rename World => wy
                obtain ⟨k2, rfl, hsub, hkl, hby⟩ := hrel
                have hk2 : k2 < ln := by have := seek_in (unhide HLT) hsub; omega
                have HS2 := hide hsub
                have HB2 := hide hby
                have HK2 := hide hk2
                obtain ⟨A8, c8, e8, hc8⟩ := (unhide HSV).below hby
                obtain ⟨A9, c9, e9, hc9⟩ := (unhide HHV).below hby
                injection e8 with e8 x1 x2
                injection e9 with e9 x3 x4
                clear x1 x2 x3 x4
                obtain ⟨b8, o8, hA8, _, hc8⟩ := hc8 (by omega)
                obtain ⟨b9, o9, hA9, _, hc9⟩ := hc9 (by have := unhide HLT; omega)
                rw [hA8] at e8
                injection e8 with e8
                injection e8 with e8a e8b _
                subst e8a e8b
                rw [hA9] at e9
                have p1 : ∀ k, (wy.drewN k).cell? ⟨g, k2, none⟩ = some (.string (sd.getD k2 noS)) := fun k => by have := hc8 k2 (by omega); rwa [Nat.zero_add] at this
                have p2 : ∀ k, (wy.drewN k).cell? ⟨b9, o9 + i2, none⟩ = some (.string (Y.i.getD i2 noS)) := fun k => hc9 i2 (unhide HLT)
                have HQ : Hid (sd.getD k2 noS ≠ Y.i.getD i2 noS → (Y.i.drop i2).Sublist (sd.drop (k2 + 1))) := hide (fun h => seek_past (unhide HLT) hsub h)
                have HQ2 : Hid ((Y.i.drop (i2 + 1)).Sublist (sd.drop (k2 + 1))) := hide (seek_hit (unhide HLT) hsub)
                have q2 : (k2 : Int) < (ln : Int) := by omega
                have q3 : (0 : Int) ≤ (k2 : Int) := by omega
                have q4 : ¬ (k2 : Int) = (ln : Int) := by omega
                have q5 : ((k2 : Int) == (ln : Int)) = false := by simp; omega
                subst e9
                clear hc8 hc9 hA8 hA9 hkl hby hsub hk2 HS2
                generalize sd.getD k2 noS = x at *
                generalize Y.i.getD i2 noS = y at *
                by_cases hxy : x = y
                · subst hxy
                  clear HQ
                  go_wp2_with fail
                  go_quiet (fail)
                  go_wp2_with fail
                  refine ⟨⟨i2 + 1, k2 + 1, by have := unhide HLT; omega, by go_num, by go_num, unhide HQ2, by have := unhide HK2; omega, below_drewN (unhide HB2) _⟩, ?_⟩
                  have := unhide HLT
                  simp [intOf]
                  omega
                · have q6 : (x.toList == y.toList) = false := txt_ne hxy
                  have HQ := hide (unhide HQ hxy)
                  clear HQ2
                  go_wp2_with fail
                  go_quiet (fail)
                  go_wp2_with fail
                  go_roundw
                  case rel => exact ⟨k2 + 1, by go_num, unhide HQ, unhide HK2, below_drewN (unhide HB2) _⟩
                  case measure => have := unhide HK2; simp [intOf]; omega
            · obtain rfl : i2 = Y.i.length := by omega
              clear hge hi2 hkl HSB HSU HSV HHV
              obtain ⟨c0, c1, c2, c3, c4, c5, c6, c7⟩ := unhide R8 wx (bl_st (unhide HBX) (bl_st (unhide HBW) (unhide HBO)))
              have K16 := hide (unhide K16x wx (bl_st (unhide HBX) (bl_st (unhide HBW) (unhide HBO))))
              go_wp2_with (go_at_call 16; refine (unhide K16).mono ?_; rintro e wz ⟨rfl, bz⟩; have HBZ := hide (bl_st bz (bl_st (unhide HBX) (bl_st (unhide HBW) (unhide HBO)))); clear bz)
              refine ⟨⟨1, by omega, by go_num, unhide HBZ⟩, ?_⟩
              simp [intOf]
    · clear hj
      rw [show ((1 : Nat) : Int) = 1 from rfl]
      have HO0 : Hid ((wo.alloc (.cells #[] 9)).ownsRow wo.heap.size 9 1 (.slice (some ⟨wo.heap.size, 0, none⟩) 0 0) 0 (([] : List ByteArray).map Value.string)) := hide ⟨rfl, .inr ⟨wo.heap.size, 0, #[], rfl, Nat.le_refl _, heap_alloc_new wo _, Nat.le_refl _, by unfold maxLen; omega, rfl, rfl⟩⟩
      go_wp2_with fail
      generalize hw9 : wo.alloc (.cells #[] 9) = w9 at *
      have HB9 : Hid (Below wo.heap.size wo w9) := hide (by rw [← hw9]; exact bl_al (Below.refl _ _))
      clear hw9
      go_loopw [11, 12] (fun s iv wr => ∃ i g c : Nat, i ≤ NN ∧ iv = .int .i64 i ∧ s = .slice (some ⟨g, 0, none⟩) (saidF 1 (al.take i) tw0).length c ∧ wr.ownsRow wo.heap.size 9 1 (.slice (some ⟨g, 0, none⟩) (saidF 1 (al.take i) tw0).length c) (saidF 1 (al.take i) tw0).length ((saidF 1 (al.take i) tw0).map Value.string) ∧ Below wo.heap.size wo wr) (fun _ iv _ => NN - (intOf iv).toNat)
      case atStart => exact ⟨0, wo.heap.size, 0, by omega, rfl, rfl, unhide HO0, unhide HB9⟩
      case round =>
        obtain ⟨i, g, c, hi, rfl, rfl, how, hbw⟩ := hrel
        have HOW := hide how
        have HBW := hide hbw
        have HLN : Hid ((saidF 1 (al.take i) tw0).length ≤ 60) := hide (by have := said_len 1 (al.take i) tw0; have := unhide HL6; simp at *; omega)
        generalize hln : (saidF 1 (al.take i) tw0).length = ln at *
        clear how hbw HO0 HB9
        rcases Nat.lt_or_ge i NN with hlt | hge
        · have q1 : (i : Int) < (NN : Int) := by omega
          have q0 : (0 : Int) ≤ (i : Int) := by omega
          have qN : (NN : Int) ≤ 60 := by have := unhide HL6; omega
          obtain ⟨b0, o0, hA0, aC⟩ := unhide HAC i hlt
          subst hA0
          have aC := aC wr (bl_st (unhide HBW) (unhide HBO))
          obtain ⟨a0, a1, a2, _, _⟩ := aC
          have ci := unhide HCD i hlt wr (bl_st (unhide HBW) (unhide HBO))
          have HS := hide (said_step (al := al) (who := 1) (j := i) (by have := unhide HNN; omega))
          have HLT := hide hlt
          clear hlt hi
          generalize (al.getD i ta0).k = ak at *
          generalize (al.getD i ta0).w = aw at *
          generalize (al.getD i ta0).t = tt at *
          generalize (codesF al tw0).getD i 0 = cj at *
          by_cases h1 : ak = 1
          · by_cases h2 : aw = 1
            · by_cases h3 : cj = 0
              · have HST : Hid (saidF 1 (al.take (i + 1)) tw0 = saidF 1 (al.take i) tw0 ++ [tt]) := hide (by rw [unhide HS, if_pos ⟨h1, h2, h3⟩])
                clear HS
                have q3 : ak = 1 := h1
                have q4 : aw = 1 := h2
                have q5 : cj = 0 := h3
                subst q3 q4 q5
                clear h1 h2 h3
                go_wp2_with (at_builtin; refine wpList_push wr rfl _ _ rfl wo.heap.size ln g c (saidF 1 (al.take i) tw0) rfl (unhide HOW) wr.heap.size rfl tt rfl (by have := unhide HLN; omega) (unhide HBW).size ?_; intro g3 c3 wp pu; have HOP := hide pu.row; have HBP := hide (pu.be _ _ (unhide HBW) (Nat.le_refl _) (unhide HBW).size); clear pu)
                have e9 : (saidF 1 (al.take (i + 1)) tw0).length = ln + 1 := by rw [unhide HST, List.length_append, hln]; rfl
                go_roundw
                case rel => exact ⟨i + 1, g3, c3, by have := unhide HLT; omega, by go_num, by rw [e9], by rw [e9, unhide HST]; exact unhide HOP, unhide HBP⟩
                case measure => have := unhide HLT; simp [intOf]; omega
              · have HST : Hid (saidF 1 (al.take (i + 1)) tw0 = saidF 1 (al.take i) tw0) := hide (by rw [unhide HS, if_neg (fun c => h3 c.2.2)]; exact List.append_nil _)
                clear HS
                have q3 : ak = 1 := h1
                have q4 : aw = 1 := h2
                subst q3 q4
                have q5 : ¬ cj = 0 := h3
                have q5b : (cj == 0) = false := by simp; exact h3
                clear h1 h2 h3
                go_wp2_with fail
                go_roundw
                case rel => exact ⟨i + 1, g, c, by have := unhide HLT; omega, by go_num, by rw [unhide HST, hln], by rw [unhide HST, hln]; exact unhide HOW, unhide HBW⟩
                case measure => have := unhide HLT; simp [intOf]; omega
            · have HST : Hid (saidF 1 (al.take (i + 1)) tw0 = saidF 1 (al.take i) tw0) := hide (by rw [unhide HS, if_neg (fun c => h2 c.2.1)]; exact List.append_nil _)
              clear HS
              have q3 : ak = 1 := h1
              subst q3
              have q4 : ¬ aw = 1 := h2
              have q4b : (aw == 1) = false := by simp; exact h2
              clear h1 h2
              go_wp2_with fail
              go_roundw
              case rel => exact ⟨i + 1, g, c, by have := unhide HLT; omega, by go_num, by rw [unhide HST, hln], by rw [unhide HST, hln]; exact unhide HOW, unhide HBW⟩
              case measure => have := unhide HLT; simp [intOf]; omega
          · have HST : Hid (saidF 1 (al.take (i + 1)) tw0 = saidF 1 (al.take i) tw0) := hide (by rw [unhide HS, if_neg (fun c => h1 c.1)]; exact List.append_nil _)
            clear HS
            have q3 : ¬ ak = 1 := h1
            have q3b : (ak == 1) = false := by simp; exact h1
            clear h1
            go_wp2_with fail
            go_roundw
            case rel => exact ⟨i + 1, g, c, by have := unhide HLT; omega, by go_num, by rw [unhide HST, hln], by rw [unhide HST, hln]; exact unhide HOW, unhide HBW⟩
            case measure => have := unhide HLT; simp [intOf]; omega
        · obtain rfl : i = NN := by omega
          have HAL : Hid (saidF 1 (al.take i) tw0 = saidF 1 al tw0) := hide (by rw [unhide HNN, List.take_length])
          rw [unhide HAL] at HOW hln
          have HSU : Hid (X.i.Sublist (saidF 1 al tw0)) := hide (by rw [unhide HXx]; exact heard1 al)
          have HSV : Hid (strsV wr (.slice (some ⟨g, 0, none⟩) ln c) (saidF 1 al tw0)) := hide (own_strs hln (unhide HOW))
          have HHV : Hid (strsV wr (.slice C0 X.i.length r1) X.i) := hide (((unhide HPx).below (bl_st (unhide HBW) (unhide HBO))))
          obtain ⟨c0, c1, c2, c3, c4, c5, c6, c7⟩ := unhide R8 wr (bl_st (unhide HBW) (unhide HBO))
          clear hge hi HOW HAL
          generalize saidF 1 al tw0 = sd at *
          go_wp2_with fail
          clear c0 c1 c2 c3 c4 c5 c6 c7
          go_loopw [14, 15] (fun kv iv wx => ∃ i k : Nat, i ≤ X.i.length ∧ iv = .int .i64 i ∧ kv = .int .i64 k ∧ (X.i.drop i).Sublist (sd.drop k) ∧ k ≤ ln ∧ Below wr.heap.size wr wx) (fun _ iv _ => X.i.length - (intOf iv).toNat)
          case atStart => exact ⟨0, 0, by omega, rfl, rfl, unhide HSU, by omega, Below.refl _ _⟩
          case round =>
            rename World => wx
            obtain ⟨i2, k, hi2, rfl, rfl, hsub, hkl, hbx⟩ := hrel
            have HSB := hide hsub
            have HBX := hide hbx
            clear hsub hbx
            rcases Nat.lt_or_ge i2 X.i.length with hlt | hge
            · have q1 : (i2 : Int) < (X.i.length : Int) := by omega
              have q0 : (0 : Int) ≤ (i2 : Int) := by omega
              have qH : (X.i.length : Int) ≤ 1048576 := by have := (unhide HFWx).2; omega
              have qL : (ln : Int) ≤ 60 := by have := unhide HLN; omega
              have HLT := hide hlt
              have HKL := hide hkl
              clear hlt hi2 hkl
              go_wp2_with fail
              go_loopw [14] (fun kv wy => ∃ k : Nat, kv = .int .i64 k ∧ (X.i.drop i2).Sublist (sd.drop k) ∧ k ≤ ln ∧ Below wr.heap.size wr wy) (fun kv _ => ln - (intOf kv).toNat)
              case atStart => exact ⟨k, rfl, unhide HSB, unhide HKL, unhide HBX⟩
              case round =>
                rename World => wy
                obtain ⟨k2, rfl, hsub, hkl, hby⟩ := hrel
                have hk2 : k2 < ln := by have := seek_in (unhide HLT) hsub; omega
                have HS2 := hide hsub
                have HB2 := hide hby
                have HK2 := hide hk2
                obtain ⟨A8, c8, e8, hc8⟩ := (unhide HSV).below hby
                obtain ⟨A9, c9, e9, hc9⟩ := (unhide HHV).below hby
                injection e8 with e8 x1 x2
                injection e9 with e9 x3 x4
                clear x1 x2 x3 x4
                obtain ⟨b8, o8, hA8, _, hc8⟩ := hc8 (by omega)
                obtain ⟨b9, o9, hA9, _, hc9⟩ := hc9 (by have := unhide HLT; omega)
                rw [hA8] at e8
                injection e8 with e8
                injection e8 with e8a e8b _
                subst e8a e8b
                rw [hA9] at e9
                have p1 : ∀ k, (wy.drewN k).cell? ⟨g, k2, none⟩ = some (.string (sd.getD k2 noS)) := fun k => by have := hc8 k2 (by omega); rwa [Nat.zero_add] at this
                have p2 : ∀ k, (wy.drewN k).cell? ⟨b9, o9 + i2, none⟩ = some (.string (X.i.getD i2 noS)) := fun k => hc9 i2 (unhide HLT)
                have HQ : Hid (sd.getD k2 noS ≠ X.i.getD i2 noS → (X.i.drop i2).Sublist (sd.drop (k2 + 1))) := hide (fun h => seek_past (unhide HLT) hsub h)
                have HQ2 : Hid ((X.i.drop (i2 + 1)).Sublist (sd.drop (k2 + 1))) := hide (seek_hit (unhide HLT) hsub)
                have q2 : (k2 : Int) < (ln : Int) := by omega
                have q3 : (0 : Int) ≤ (k2 : Int) := by omega
                have q4 : ¬ (k2 : Int) = (ln : Int) := by omega
                have q5 : ((k2 : Int) == (ln : Int)) = false := by simp; omega
                subst e9
                clear hc8 hc9 hA8 hA9 hkl hby hsub hk2 HS2
                generalize sd.getD k2 noS = x at *
                generalize X.i.getD i2 noS = y at *
                by_cases hxy : x = y
                · subst hxy
                  clear HQ
                  go_wp2_with fail
                  go_quiet (fail)
                  go_wp2_with fail
                  refine ⟨⟨i2 + 1, k2 + 1, by have := unhide HLT; omega, by go_num, by go_num, unhide HQ2, by have := unhide HK2; omega, below_drewN (unhide HB2) _⟩, ?_⟩
                  have := unhide HLT
                  simp [intOf]
                  omega
                · have q6 : (x.toList == y.toList) = false := txt_ne hxy
                  have HQ := hide (unhide HQ hxy)
                  clear HQ2
                  go_wp2_with fail
                  go_quiet (fail)
                  go_wp2_with fail
                  go_roundw
                  case rel => exact ⟨k2 + 1, by go_num, unhide HQ, unhide HK2, below_drewN (unhide HB2) _⟩
                  case measure => have := unhide HK2; simp [intOf]; omega
            · obtain rfl : i2 = X.i.length := by omega
              clear hge hi2 hkl HSB HSU HSV HHV
              obtain ⟨c0, c1, c2, c3, c4, c5, c6, c7⟩ := unhide R8 wx (bl_st (unhide HBX) (bl_st (unhide HBW) (unhide HBO)))
              have K16 := hide (unhide K16y wx (bl_st (unhide HBX) (bl_st (unhide HBW) (unhide HBO))))
              go_wp2_with (go_at_call 16; refine (unhide K16).mono ?_; rintro e wz ⟨rfl, bz⟩; have HBZ := hide (bl_st bz (bl_st (unhide HBX) (bl_st (unhide HBW) (unhide HBO)))); clear bz)
              refine ⟨⟨2, by omega, by go_num, unhide HBZ⟩, ?_⟩
              simp [intOf]
    · clear hj
      rw [show ((2 : Nat) : Int) = 2 from rfl]
      go_wp2_with fail
      go_ret
      exact ⟨rfl, bl_st (unhide HBO) (unhide B3)⟩
end Go.Proofs.Ythonnlifgdnacaa
