/- The law of messages, walked. -/
import Derived.Test.YtgdohkemamlnhaaDoorMo
import Derived.Test.YtgdohkemamlnhaaDoorRtp
import Derived.Test.YtgdohkemamlnhaaDoorRs
import Derived.Test.YtgdohkemamlnhaaDoorAt
namespace Go.Proofs.YtgdohkemamlnhaaDoor
open Go.RowKit
set_option maxHeartbeats 4000000
set_option maxRecDepth 20000
theorem read_sp (u : Value) (xs : List Int) (W : World) (hu : bytesC W u xs) (hg : W.cell? ⟨0, 0, none⟩ = some (.iface 108 (.agg #[.pointer (some ⟨1, 72, none⟩)]))) :
    Calls Tryd.prog 9 #[u] W fun e w' => e = .returned (.tuple #[(spM xs).1, .int .i64 (spM xs).2]) ∧ Below W.heap.size W w' := by
  have hB : isB xs := by obtain ⟨_, _, _, _, h, _⟩ := hu; exact h
  obtain ⟨e1, e2⟩ := agree hB
  rw [← e1, ← e2]
  exact read9 u xs W hu hg
theorem spM_cases (Y : List Int) (hY : Y.length = 64) : ∃ r s a d t c, spM Y = (msgV r s a d t, c) ∧ (c = 3 ∨ c = 0 ∧ okM r s a d t = true ∧ mB r s a d t = Y) := by
  unfold spM
  rw [if_neg (by omega)]
  by_cases h : Y.length = 64 ∧ Y.getD 16 0 ≤ 40 ∧ rokM Y (Y.getD 16 0).toNat = true
  · rw [if_pos h]
    have hk := h.2.2
    unfold rokM at hk
    rw [Bool.and_eq_true, decide_eq_true_eq] at hk
    exact ⟨_, _, _, _, _, _, rfl, .inr ⟨rfl, hk.1, hk.2⟩⟩
  · rw [if_neg h]
    exact ⟨_, _, _, _, _, _, rfl, .inl rfl⟩
theorem bits_u8 (a b : Int) : 0 ≤ bits BinOp.xor IntKind.u8 a b ∧ bits BinOp.xor IntKind.u8 a b < 256 := by
  show 0 ≤ IntKind.u8.wrap _ ∧ IntKind.u8.wrap _ < 256
  rw [IntKind.wrap_u8']
  omega
theorem set_isB {M : List Int} (h : isB M) (i : Nat) (X : Int) (hx : 0 ≤ X ∧ X < 256) : isB (M.set i X) := fun x hm => by
  rcases List.mem_or_eq_of_mem_set hm with h1 | rfl
  · exact h x h1
  · exact hx
theorem row_below {B g : Nat} {w W : World} {xs : List Int} {rest : List Value} (h : Below B w W) (hg : B ≤ g) : Below B w (rowL W g 5 .u8 xs rest) :=
  ⟨h.os, h.tape, h.output, by rw [size_row]; exact h.size, fun k hk => by rw [get_row_other W g 5 .u8 xs rest k (by omega)]; exact h.block k hk⟩
theorem law_fm_at (A B : Option Addr) (n m cn cm : Nat) (w : World) (hA : codeAt w A n) (hB : codeAt w B m) (hg : w.cell? ⟨0, 0, none⟩ = some (.iface 108 (.agg #[.pointer (some ⟨1, 72, none⟩)]))) :
    Calls Tryd.prog 5 #[.slice A n cn, .slice B m cm] w fun e w' => e = .returned (.bool true) ∧ Below w.heap.size w w' := by
  have h0 : 0 < w.heap.size := by
    rcases Nat.eq_zero_or_pos w.heap.size with h0 | h
    · simp [World.cell?, h0] at hg
    · exact h
  by_cases hn : 1048576 < n
  · have q : (1048576 : Int) < (n : Int) := by omega
    clear hn
    go_enter Tryd.func5, Tryd.ntmps5
    go_wp2
    go_ret
    exact ⟨rfl, Below.refl _ _⟩
  by_cases hm : 1048576 < m
  · have q : (n : Int) ≤ 1048576 := by omega
    have q' : (1048576 : Int) < (m : Int) := by omega
    clear hn hm
    go_enter Tryd.func5, Tryd.ntmps5
    go_wp2
    go_ret
    exact ⟨rfl, Below.refl _ _⟩
  have q : (n : Int) ≤ 1048576 := by omega
  have q' : (m : Int) ≤ 1048576 := by omega
  have hMM := hide (show m ≤ 1048576 by omega)
  have HOF := hide (msgOf18 A n cn w (by unfold maxLen; omega) hA)
  have HRD : Hid (∀ u xs W, Below w.heap.size w W → bytesC W u xs → Calls Tryd.prog 9 #[u] W fun e w' => e = .returned (.tuple #[(spM xs).1, .int .i64 (spM xs).2]) ∧ Below W.heap.size W w') := hide fun u xs W hb hu => read_sp u xs W hu ((cellB hb h0).trans hg)
  have HCB := hide hB
  have hat0 : Hid (∀ W, Below w.heap.size w W → Calls Tryd.prog 22 #[.slice B m cm, .int .i64 0, .int .i64 64] W fun e w' => ∃ v : Nat, e = .returned (.int .i64 v) ∧ v < 64 ∧ Below W.heap.size W w') := hide fun W hb => at_any W B m cm 0 64 (by omega) (by omega) (by omega) (by omega) (codeAt_below hB hb)
  have hat1 : Hid (∀ W, Below w.heap.size w W → Calls Tryd.prog 22 #[.slice B m cm, .int .i64 1, .int .i64 255] W fun e w' => ∃ v : Nat, e = .returned (.int .i64 v) ∧ v < 255 ∧ Below W.heap.size W w') := hide fun W hb => at_any W B m cm 1 255 (by omega) (by omega) (by omega) (by omega) (codeAt_below hB hb)
  clear hA hB hg h0 hn hm
  go_enter Tryd.func5, Tryd.ntmps5
  go_wp2_with fail
  refine (unhide HOF).mono ?_
  rintro e w1 ⟨r, s, a, d, t, rfl, ok, b1⟩
  have OK := hide ok
  have M1 := hide (mc_new w1 r s a d t 24)
  have B1 := hide (bl_al (o := .cells #[.int .i64 r, .int .i64 s, .int .i64 a, .string d, .string t] 24) b1)
  have HIM := hide (mbI r s a d t)
  have HSP := hide (mb10 r s a d t)
  have eL : mbL r s a d t = mB r s a d t := by unfold mbL; rw [if_pos ok]
  have eC : mbC r s a d t = 0 := by unfold mbC; rw [if_pos ok]
  rw [eL, eC] at HIM HSP
  have HBK := hide (back ok)
  have HLM := hide (mB_len r s a d t (okM_sizes ok).1 (okM_sizes ok).2)
  have HIB := hide (mB_isB r s a d t (okM_sizes ok).2)
  have HOK := hide (okI r s a d t)
  rw [ok] at HOK
  clear ok b1 eL eC HOF
  generalize mB r s a d t = M at *
  obtain ⟨_, c0, c1, c2, c3, c4⟩ := unhide M1
  go_wp2_with fail
  generalize w1.alloc (.cells #[.int .i64 r, .int .i64 s, .int .i64 a, .string d, .string t] 24) = w1' at *
  generalize w1.heap.size = z at *
  refine (unhide HIM w1').mono ?_
  rintro e w2 ⟨v, rfl, o2, b2⟩
  have HW1 := hide (unhide B1).size
  have B2 := hide ((unhide B1).trans (b2.mono (unhide B1).size))
  have M2 := hide ((unhide M1).below b2)
  have O2 := hide o2
  clear o2 b2 B1 M1 c0 c1 c2 c3 c4
  obtain ⟨_, c0, c1, c2, c3, c4⟩ := unhide M2
  go_wp2_with fail
  refine (unhide HSP w2).mono ?_
  rintro e w3 ⟨u, rfl, o3, b3⟩
  have B3 := hide ((unhide B2).trans (b3.mono (unhide B2).size))
  have M3 := hide ((unhide M2).below b3)
  have O3 := hide ((unhide O2).below b3)
  have U3 := hide o3
  clear o3 b3 B2 M2 O2 c0 c1 c2 c3 c4
  go_wp2_with fail
  have hrd := unhide HRD v M w3 (unhide B3) (unhide O3).bytesC
  rw [unhide HBK] at hrd
  dsimp only at hrd
  refine hrd.mono ?_
  rintro e w4 ⟨rfl, b4⟩
  have b4' : Below w3.heap.size w3 (w4.alloc (.cells #[.int .i64 r, .int .i64 s, .int .i64 a, .string d, .string t] 24)) := bl_al b4
  have B4 := hide ((unhide B3).trans (b4'.mono (unhide B3).size))
  have M4 := hide ((unhide M3).below b4')
  have X4 := hide (mc_new w4 r s a d t 24)
  have O4 := hide ((unhide O3).below b4')
  have U4 := hide ((unhide U3).below b4')
  have cvV := (unhide O4).conv
  have cvU := (unhide U4).conv
  clear b4 b4' B3 M3 O3 U3 hrd
  obtain ⟨_, c0, c1, c2, c3, c4⟩ := unhide M4
  obtain ⟨_, d0, d1, d2, d3, d4⟩ := unhide X4
  obtain ⟨g, cp, rfl, hcp, hrow⟩ := (unhide O4).row (by rw [unhide HLM]; omega)
  have HCQ := hide (show 64 ≤ cp by rw [unhide HLM] at hcp; exact hcp)
  clear hrow hcp
  rw [unhide HLM] at O4 cvV ⊢
  go_wp2_with fail
  refine (unhide HOK _).mono ?_
  rintro e w5 ⟨rfl, b5⟩
  have B5 := hide ((unhide B4).trans (b5.mono (unhide B4).size))
  have O5 := hide ((unhide O4).below b5)
  clear b5 B4 O4 M4 X4 U4 cvV cvU c0 c1 c2 c3 c4 d0 d1 d2 d3 d4 HSP HOK
  go_wp2
  obtain ⟨_, ⟨e5, _⟩ | ⟨g5, cp5, rest, e5, hgb, hc5, hcp5⟩⟩ := unhide O5
  · simp at e5
  rw [unhide HLM] at e5
  simp only [Value.slice.injEq, Option.some.injEq, Addr.mk.injEq, and_true, true_and] at e5
  obtain ⟨rfl, rfl⟩ := e5
  have HC5 := hide hc5
  have HGW := hide (Nat.le_trans (unhide HW1) hgb)
  clear hc5 hcp5 hgb
  refine wp_region_held (S := fun _ => True) (by kernel_rfl) ?_
  have hS0 : Below w5.heap.size w5 { w5 with drawn := w5.drawn + 1 } := below_drewN (Below.refl _ _) 1
  refine wpAnyH_take (i := 0) (oi := { dst := some 69, op := Op.move (Operand.tmp 6), type := 22, pos := "laws.go:287", after := #[], guard := none }) (v := ?_) rfl (by kernel_rfl) (by kernel_rfl) (by kernel_rfl) (fun _ _ _ h => h) (Or.inl ⟨by rfl, ?_⟩) trivial ?_
  rotate_left
  · intro W _
    go_simp
    try with_reducible rfl
  simp only [Act.put, List.setIfInBounds_toArray, List.set_cons_zero, List.set_cons_succ]
  refine wpAnyH_take (i := 1) (oi := { dst := some 70, op := Op.move (Operand.tmp 1), type := 22, pos := "laws.go:287", after := #[], guard := none }) (v := ?_) rfl (by kernel_rfl) (by kernel_rfl) (by kernel_rfl) (fun _ _ _ h => h) (Or.inl ⟨by rfl, ?_⟩) trivial ?_
  rotate_left
  · intro W _
    go_simp
    try with_reducible rfl
  simp only [Act.put, List.setIfInBounds_toArray, List.set_cons_zero, List.set_cons_succ]
  refine wpAnyH_take (i := 2) (oi := { dst := some 71, op := Op.move (Operand.tmp 6), type := 22, pos := "laws.go:287", after := #[], guard := none }) (v := ?_) rfl (by kernel_rfl) (by kernel_rfl) (by kernel_rfl) (fun _ _ _ h => h) (Or.inl ⟨by rfl, ?_⟩) trivial ?_
  rotate_left
  · intro W _
    go_simp
    try with_reducible rfl
  simp only [Act.put, List.setIfInBounds_toArray, List.set_cons_zero, List.set_cons_succ]
  refine wpAnyH_take (i := 3) (oi := { dst := some 72, op := Op.call { callee := Callee.builtin Builtin.len, args := #[Operand.tmp 71], argTypes := #[22] }, type := 3, pos := "laws.go:287", after := #[{ on := 2, ground := Ground.data }], guard := none }) (v := ?_) rfl (by kernel_rfl) (by kernel_rfl) (by kernel_rfl) (fun _ _ _ h => h) (Or.inl ⟨by rfl, ?_⟩) trivial ?_
  rotate_left
  · intro W _
    go_simp
    try with_reducible rfl
  simp only [Act.put, List.setIfInBounds_toArray, List.set_cons_zero, List.set_cons_succ]
  refine wpAnyH_take (i := 7) (oi := { dst := some 76, op := Op.move (Operand.tmp 1), type := 22, pos := "laws.go:287", after := #[], guard := none }) (v := ?_) rfl (by kernel_rfl) (by kernel_rfl) (by kernel_rfl) (fun _ _ _ h => h) (Or.inl ⟨by rfl, ?_⟩) trivial ?_
  rotate_left
  · intro W _
    go_simp
    try with_reducible rfl
  simp only [Act.put, List.setIfInBounds_toArray, List.set_cons_zero, List.set_cons_succ]
  refine wpAnyH_one (i := 4) (by kernel_rfl) ?_
  refine wpOp_step (o := { dst := some 73, op := Op.call { callee := Callee.value (Operand.func 22), args := #[Operand.tmp 70, Operand.const (Value.int IntKind.i64 0), Operand.tmp 72], argTypes := #[22, 3, 3] }, type := 3, pos := "laws.go:287", after := #[{ on := 1, ground := Ground.data }, { on := 3, ground := Ground.data }], guard := none }) rfl fun K' hK => step_enterW (by rfl) 22 #[.slice B m cm, .int .i64 0, .int .i64 64] (by go_simp) ((unhide hat0 _ ((unhide B5).trans (hS0.mono (unhide B5).size))).mono ?_)
  rintro e w6 ⟨i, rfl, hi, b6⟩
  have d6 : Below w5.heap.size w5 w6 := bl_st b6 hS0
  have i0 : (0 : Int) ≤ (i : Int) := by omega
  have i1 : (i : Int) < 64 := by omega
  refine ⟨_, rfl, hK _ _ ⟨trivial, ?_⟩⟩
  simp only [Act.put, List.setIfInBounds_toArray, List.set_cons_zero, List.set_cons_succ]
  refine wpAnyH_take (i := 5) (oi := { dst := some 74, op := Op.indexAddr 22 (Operand.tmp 69) (Operand.tmp 73), type := 0, pos := "laws.go:287", after := #[{ on := 0, ground := Ground.data }, { on := 4, ground := Ground.data }], guard := none }) (v := ?_) rfl (by kernel_rfl) (by kernel_rfl) (by kernel_rfl) (fun _ _ _ h => h) (Or.inl ⟨by rfl, ?_⟩) trivial ?_
  rotate_left
  · intro W _
    go_simp
    try with_reducible rfl
  simp only [Act.put, List.setIfInBounds_toArray, List.set_cons_zero, List.set_cons_succ]
  refine wpAnyH_two (i := 6) (j := 8) (by kernel_rfl) ?_ ?_
  · have cc := cell_rowObj ((d6.block g (Array.getElem?_eq_some_iff.1 (unhide HC5)).1).trans (unhide HC5)) i (by rw [unhide HLM]; exact hi)
    generalize M.getD i 0 = Mi at *
    refine wpOp_step (o := { dst := some 75, op := Op.load 5 (Operand.tmp 74), type := 5, pos := "laws.go:287", after := #[{ on := 5, ground := Ground.data }], guard := none }) rfl fun K' hK => step_valueW (by rfl) (.int .u8 Mi) w6 (by go_simp) ?_
    refine hK _ _ ⟨trivial, ?_⟩
    simp only [Act.put, List.setIfInBounds_toArray, List.set_cons_zero, List.set_cons_succ]
    refine wpAnyH_one (i := 8) (by kernel_rfl) ?_
    refine wpOp_step (o := { dst := some 77, op := Op.call { callee := Callee.value (Operand.func 22), args := #[Operand.tmp 76, Operand.const (Value.int IntKind.i64 1), Operand.const (Value.int IntKind.i64 255)], argTypes := #[22, 3, 3] }, type := 3, pos := "laws.go:287", after := #[{ on := 7, ground := Ground.data }, { on := 4, ground := Ground.chain }], guard := none }) rfl fun K' hK => step_enterW (by rfl) 22 #[.slice B m cm, .int .i64 1, .int .i64 255] (by go_simp) ((unhide hat1 _ ((unhide B5).trans (d6.mono (unhide B5).size))).mono ?_)
    rintro e w7 ⟨j, rfl, hj, b7⟩
    have d7 : Below w5.heap.size w5 w7 := bl_st b7 d6
    have j0 : (0 : Int) ≤ (j : Int) := by omega
    have j1 : (j : Int) < 255 := by omega
    refine ⟨_, rfl, hK _ _ ⟨trivial, ?_⟩⟩
    simp only [Act.put, List.setIfInBounds_toArray, List.set_cons_zero, List.set_cons_succ]
    refine wpAnyH_take (i := 9) (oi := { dst := some 78, op := Op.binOp BinOp.add 3 (Operand.const (Value.int IntKind.i64 1)) (Operand.tmp 77) 3, type := 3, pos := "laws.go:287", after := #[{ on := 8, ground := Ground.data }], guard := none }) (v := ?_) rfl (by kernel_rfl) (by kernel_rfl) (by kernel_rfl) (fun _ _ _ h => h) (Or.inl ⟨by rfl, ?_⟩) trivial ?_
    rotate_left
    · intro W _
      go_simp
      try with_reducible rfl
    simp only [Act.put, List.setIfInBounds_toArray, List.set_cons_zero, List.set_cons_succ]
    refine wpAnyH_take (i := 10) (oi := { dst := some 79, op := Op.convert 3 5 (Operand.tmp 78), type := 5, pos := "laws.go:287", after := #[{ on := 9, ground := Ground.data }], guard := none }) (v := ?_) rfl (by kernel_rfl) (by kernel_rfl) (by kernel_rfl) (fun _ _ _ h => h) (Or.inl ⟨by rfl, ?_⟩) trivial ?_
    rotate_left
    · intro W _
      go_simp
      try with_reducible rfl
    simp only [Act.put, List.setIfInBounds_toArray, List.set_cons_zero, List.set_cons_succ]
    refine wpAnyH_take (i := 11) (oi := { dst := some 80, op := Op.binOp BinOp.xor 5 (Operand.tmp 75) (Operand.tmp 79) 5, type := 5, pos := "laws.go:287", after := #[{ on := 6, ground := Ground.data }, { on := 10, ground := Ground.data }], guard := none }) (v := ?_) rfl (by kernel_rfl) (by kernel_rfl) (by kernel_rfl) (fun _ _ _ h => h) (Or.inl ⟨by rfl, ?_⟩) trivial ?_
    rotate_left
    · intro W _
      go_simp
      try with_reducible rfl
    simp only [Act.put, List.setIfInBounds_toArray, List.set_cons_zero, List.set_cons_succ]
    refine wpAnyH_take (i := 12) (oi := { dst := some 81, op := Op.indexAddr 22 (Operand.tmp 69) (Operand.tmp 73), type := 0, pos := "laws.go:287", after := #[{ on := 0, ground := Ground.data }, { on := 4, ground := Ground.data }, { on := 0, ground := Ground.phase }, { on := 1, ground := Ground.phase }, { on := 2, ground := Ground.phase }, { on := 3, ground := Ground.phase }, { on := 4, ground := Ground.phase }, { on := 5, ground := Ground.phase }, { on := 6, ground := Ground.phase }, { on := 7, ground := Ground.phase }, { on := 8, ground := Ground.phase }, { on := 9, ground := Ground.phase }, { on := 10, ground := Ground.phase }, { on := 11, ground := Ground.phase }], guard := none }) (v := ?_) rfl (by kernel_rfl) (by kernel_rfl) (by kernel_rfl) (fun _ _ _ h => h) (Or.inl ⟨by rfl, ?_⟩) trivial ?_
    rotate_left
    · intro W _
      go_simp
      try with_reducible rfl
    simp only [Act.put, List.setIfInBounds_toArray, List.set_cons_zero, List.set_cons_succ]
    obtain ⟨X, hX⟩ : ∃ X : Int, bits BinOp.xor IntKind.u8 Mi (IntKind.u8.wrap (IntKind.i64.wrap (1 + (j : Int)))) = X := ⟨_, rfl⟩
    rw [hX]
    have hx : 0 ≤ X ∧ X < 256 := by
      rw [← hX]
      exact bits_u8 _ _
    clear hX
    have hg7 := (d7.block g (Array.getElem?_eq_some_iff.1 (unhide HC5)).1).trans (unhide HC5)
    have lg := (Array.getElem?_eq_some_iff.1 hg7).1
    have hll := unhide HLM
    have p1 := cell_rowObj hg7 i (by omega)
    have p2 := frozen_row w7 g 5 .u8 M rest i lg
    have p3 := set_row w7 g 5 .u8 M rest i X (by omega) lg
    have gr := get_row w7 g 5 .u8 (M.set i X) rest lg
    have go := fun k (h : k ≠ g) => get_row_other w7 g 5 .u8 (M.set i X) rest k h
    have gs := size_row w7 g 5 .u8 (M.set i X) rest
    rw [row_same w7 g 5 .u8 M rest hg7] at p2 p3
    have hY : (M.set i X).length = 64 := by rw [List.length_set]; exact hll
    have iY : isB (M.set i X) := set_isB (unhide HIB) i X hx
    have B8 := hide (show Below w.heap.size w (rowL w7 g 5 .u8 (M.set i X) rest) from row_below ((unhide B5).trans (d7.mono (unhide B5).size)) (unhide HGW))
    have U8 := hide (show bytesC (rowL w7 g 5 .u8 (M.set i X) rest) (.slice (some ⟨g, 0, none⟩) 64 cp) (M.set i X) from ⟨some ⟨g, 0, none⟩, cp, by rw [hY], by rw [hY]; exact unhide HCQ, iY, .inr ⟨g, 0, rfl, by rw [gs]; exact lg, fun k hk => by rw [Nat.zero_add]; exact cell_rowObj gr k hk⟩⟩)
    have HY := hide hY
    have IY := hide iY
    clear gr go gs hY iY hg7 hll hx
    refine wpAnyH_one (i := 13) (by kernel_rfl) ?_
    refine wpOp_step (o := { dst := none, op := Op.store 5 (Operand.tmp 81) (Operand.tmp 80), type := 0, pos := "laws.go:287", after := #[{ on := 12, ground := Ground.data }, { on := 11, ground := Ground.data }, { on := 8, ground := Ground.chain }, { on := 0, ground := Ground.phase }, { on := 1, ground := Ground.phase }, { on := 2, ground := Ground.phase }, { on := 3, ground := Ground.phase }, { on := 4, ground := Ground.phase }, { on := 5, ground := Ground.phase }, { on := 6, ground := Ground.phase }, { on := 7, ground := Ground.phase }, { on := 8, ground := Ground.phase }, { on := 9, ground := Ground.phase }, { on := 10, ground := Ground.phase }, { on := 11, ground := Ground.phase }], guard := none }) rfl fun K' hK => step_skipW (by rfl) (rowL w7 g 5 .u8 (M.set i X) rest) (by go_simp) ?_
    refine hK _ _ ⟨trivial, ?_⟩
    try simp only [Act.put]
    refine wpAnyH_done (by kernel_rfl) ?_ _
    generalize rowL w7 g 5 .u8 (M.set i X) rest = w8 at *
    generalize M.set i X = Y at *
    clear p1 p2 p3 lg d6 d7 b6 b7 hi hj i0 i1 j0 j1
    go_wp2_with fail
    have hrd := unhide HRD _ Y w8 (unhide B8) (unhide U8)
    obtain ⟨r', s', a', d', t', c', hsp, hcs⟩ := spM_cases Y (unhide HY)
    rw [hsp] at hrd
    dsimp only at hrd
    refine hrd.mono ?_
    rintro e w9 ⟨rfl, b9⟩
    have B9 := hide (bl_st b9 (unhide B8))
    have U9 := hide (((unhide U8).below b9).below (bl_al (o := .cells #[.int .i64 r', .int .i64 s', .int .i64 a', .string d', .string t'] 24) (Below.refl _ _)))
    have M9 := hide (mc_new w9 r' s' a' d' t' 24)
    clear hrd b9 U8 B8
    rcases hcs with rfl | ⟨rfl, ok', e'⟩
    · go_wp2
      go_ret
      exact ⟨rfl, bl_al (unhide B9)⟩
    · have HIM' := hide (mbI r' s' a' d' t')
      have eL' : mbL r' s' a' d' t' = Y := by unfold mbL; rw [if_pos ok']; exact e'
      have eC' : mbC r' s' a' d' t' = 0 := by unfold mbC; rw [if_pos ok']
      rw [eL', eC'] at HIM'
      clear eL' eC' ok' e' hsp
      obtain ⟨_, c0, c1, c2, c3, c4⟩ := unhide M9
      go_wp2_with fail
      refine (unhide HIM' _).mono ?_
      rintro e w10 ⟨v10, rfl, o10, b10⟩
      have B10 := hide (bl_st b10 (bl_al (o := .cells #[.int .i64 r', .int .i64 s', .int .i64 a', .string d', .string t'] 24) (unhide B9)))
      have cv1 := o10.conv
      have cv2 := ((unhide U9).below b10).conv
      clear o10 b10 U9 M9 c0 c1 c2 c3 c4
      go_wp2
      go_ret
      exact ⟨rfl, unhide B10⟩
  · refine wpOp_step (o := { dst := some 77, op := Op.call { callee := Callee.value (Operand.func 22), args := #[Operand.tmp 76, Operand.const (Value.int IntKind.i64 1), Operand.const (Value.int IntKind.i64 255)], argTypes := #[22, 3, 3] }, type := 3, pos := "laws.go:287", after := #[{ on := 7, ground := Ground.data }, { on := 4, ground := Ground.chain }], guard := none }) rfl fun K' hK => step_enterW (by rfl) 22 #[.slice B m cm, .int .i64 1, .int .i64 255] (by go_simp) ((unhide hat1 _ ((unhide B5).trans (d6.mono (unhide B5).size))).mono ?_)
    rintro e w7 ⟨j, rfl, hj, b7⟩
    have d7 : Below w5.heap.size w5 w7 := bl_st b7 d6
    have j0 : (0 : Int) ≤ (j : Int) := by omega
    have j1 : (j : Int) < 255 := by omega
    refine ⟨_, rfl, hK _ _ ⟨trivial, ?_⟩⟩
    simp only [Act.put, List.setIfInBounds_toArray, List.set_cons_zero, List.set_cons_succ]
    refine wpAnyH_take (i := 9) (oi := { dst := some 78, op := Op.binOp BinOp.add 3 (Operand.const (Value.int IntKind.i64 1)) (Operand.tmp 77) 3, type := 3, pos := "laws.go:287", after := #[{ on := 8, ground := Ground.data }], guard := none }) (v := ?_) rfl (by kernel_rfl) (by kernel_rfl) (by kernel_rfl) (fun _ _ _ h => h) (Or.inl ⟨by rfl, ?_⟩) trivial ?_
    rotate_left
    · intro W _
      go_simp
      try with_reducible rfl
    simp only [Act.put, List.setIfInBounds_toArray, List.set_cons_zero, List.set_cons_succ]
    refine wpAnyH_take (i := 10) (oi := { dst := some 79, op := Op.convert 3 5 (Operand.tmp 78), type := 5, pos := "laws.go:287", after := #[{ on := 9, ground := Ground.data }], guard := none }) (v := ?_) rfl (by kernel_rfl) (by kernel_rfl) (by kernel_rfl) (fun _ _ _ h => h) (Or.inl ⟨by rfl, ?_⟩) trivial ?_
    rotate_left
    · intro W _
      go_simp
      try with_reducible rfl
    simp only [Act.put, List.setIfInBounds_toArray, List.set_cons_zero, List.set_cons_succ]
    refine wpAnyH_one (i := 6) (by kernel_rfl) ?_
    have cc := cell_rowObj ((d7.block g (Array.getElem?_eq_some_iff.1 (unhide HC5)).1).trans (unhide HC5)) i (by rw [unhide HLM]; exact hi)
    generalize M.getD i 0 = Mi at *
    refine wpOp_step (o := { dst := some 75, op := Op.load 5 (Operand.tmp 74), type := 5, pos := "laws.go:287", after := #[{ on := 5, ground := Ground.data }], guard := none }) rfl fun K' hK => step_valueW (by rfl) (.int .u8 Mi) w7 (by go_simp) ?_
    refine hK _ _ ⟨trivial, ?_⟩
    simp only [Act.put, List.setIfInBounds_toArray, List.set_cons_zero, List.set_cons_succ]
    refine wpAnyH_take (i := 11) (oi := { dst := some 80, op := Op.binOp BinOp.xor 5 (Operand.tmp 75) (Operand.tmp 79) 5, type := 5, pos := "laws.go:287", after := #[{ on := 6, ground := Ground.data }, { on := 10, ground := Ground.data }], guard := none }) (v := ?_) rfl (by kernel_rfl) (by kernel_rfl) (by kernel_rfl) (fun _ _ _ h => h) (Or.inl ⟨by rfl, ?_⟩) trivial ?_
    rotate_left
    · intro W _
      go_simp
      try with_reducible rfl
    simp only [Act.put, List.setIfInBounds_toArray, List.set_cons_zero, List.set_cons_succ]
    refine wpAnyH_take (i := 12) (oi := { dst := some 81, op := Op.indexAddr 22 (Operand.tmp 69) (Operand.tmp 73), type := 0, pos := "laws.go:287", after := #[{ on := 0, ground := Ground.data }, { on := 4, ground := Ground.data }, { on := 0, ground := Ground.phase }, { on := 1, ground := Ground.phase }, { on := 2, ground := Ground.phase }, { on := 3, ground := Ground.phase }, { on := 4, ground := Ground.phase }, { on := 5, ground := Ground.phase }, { on := 6, ground := Ground.phase }, { on := 7, ground := Ground.phase }, { on := 8, ground := Ground.phase }, { on := 9, ground := Ground.phase }, { on := 10, ground := Ground.phase }, { on := 11, ground := Ground.phase }], guard := none }) (v := ?_) rfl (by kernel_rfl) (by kernel_rfl) (by kernel_rfl) (fun _ _ _ h => h) (Or.inl ⟨by rfl, ?_⟩) trivial ?_
    rotate_left
    · intro W _
      go_simp
      try with_reducible rfl
    simp only [Act.put, List.setIfInBounds_toArray, List.set_cons_zero, List.set_cons_succ]
    obtain ⟨X, hX⟩ : ∃ X : Int, bits BinOp.xor IntKind.u8 Mi (IntKind.u8.wrap (IntKind.i64.wrap (1 + (j : Int)))) = X := ⟨_, rfl⟩
    rw [hX]
    have hx : 0 ≤ X ∧ X < 256 := by
      rw [← hX]
      exact bits_u8 _ _
    clear hX
    have hg7 := (d7.block g (Array.getElem?_eq_some_iff.1 (unhide HC5)).1).trans (unhide HC5)
    have lg := (Array.getElem?_eq_some_iff.1 hg7).1
    have hll := unhide HLM
    have p1 := cell_rowObj hg7 i (by omega)
    have p2 := frozen_row w7 g 5 .u8 M rest i lg
    have p3 := set_row w7 g 5 .u8 M rest i X (by omega) lg
    have gr := get_row w7 g 5 .u8 (M.set i X) rest lg
    have go := fun k (h : k ≠ g) => get_row_other w7 g 5 .u8 (M.set i X) rest k h
    have gs := size_row w7 g 5 .u8 (M.set i X) rest
    rw [row_same w7 g 5 .u8 M rest hg7] at p2 p3
    have hY : (M.set i X).length = 64 := by rw [List.length_set]; exact hll
    have iY : isB (M.set i X) := set_isB (unhide HIB) i X hx
    have B8 := hide (show Below w.heap.size w (rowL w7 g 5 .u8 (M.set i X) rest) from row_below ((unhide B5).trans (d7.mono (unhide B5).size)) (unhide HGW))
    have U8 := hide (show bytesC (rowL w7 g 5 .u8 (M.set i X) rest) (.slice (some ⟨g, 0, none⟩) 64 cp) (M.set i X) from ⟨some ⟨g, 0, none⟩, cp, by rw [hY], by rw [hY]; exact unhide HCQ, iY, .inr ⟨g, 0, rfl, by rw [gs]; exact lg, fun k hk => by rw [Nat.zero_add]; exact cell_rowObj gr k hk⟩⟩)
    have HY := hide hY
    have IY := hide iY
    clear gr go gs hY iY hg7 hll hx
    refine wpAnyH_one (i := 13) (by kernel_rfl) ?_
    refine wpOp_step (o := { dst := none, op := Op.store 5 (Operand.tmp 81) (Operand.tmp 80), type := 0, pos := "laws.go:287", after := #[{ on := 12, ground := Ground.data }, { on := 11, ground := Ground.data }, { on := 8, ground := Ground.chain }, { on := 0, ground := Ground.phase }, { on := 1, ground := Ground.phase }, { on := 2, ground := Ground.phase }, { on := 3, ground := Ground.phase }, { on := 4, ground := Ground.phase }, { on := 5, ground := Ground.phase }, { on := 6, ground := Ground.phase }, { on := 7, ground := Ground.phase }, { on := 8, ground := Ground.phase }, { on := 9, ground := Ground.phase }, { on := 10, ground := Ground.phase }, { on := 11, ground := Ground.phase }], guard := none }) rfl fun K' hK => step_skipW (by rfl) (rowL w7 g 5 .u8 (M.set i X) rest) (by go_simp) ?_
    refine hK _ _ ⟨trivial, ?_⟩
    try simp only [Act.put]
    refine wpAnyH_done (by kernel_rfl) ?_ _
    generalize rowL w7 g 5 .u8 (M.set i X) rest = w8 at *
    generalize M.set i X = Y at *
    clear p1 p2 p3 lg d6 d7 b6 b7 hi hj i0 i1 j0 j1
    go_wp2_with fail
    have hrd := unhide HRD _ Y w8 (unhide B8) (unhide U8)
    obtain ⟨r', s', a', d', t', c', hsp, hcs⟩ := spM_cases Y (unhide HY)
    rw [hsp] at hrd
    dsimp only at hrd
    refine hrd.mono ?_
    rintro e w9 ⟨rfl, b9⟩
    have B9 := hide (bl_st b9 (unhide B8))
    have U9 := hide (((unhide U8).below b9).below (bl_al (o := .cells #[.int .i64 r', .int .i64 s', .int .i64 a', .string d', .string t'] 24) (Below.refl _ _)))
    have M9 := hide (mc_new w9 r' s' a' d' t' 24)
    clear hrd b9 U8 B8
    rcases hcs with rfl | ⟨rfl, ok', e'⟩
    · go_wp2
      go_ret
      exact ⟨rfl, bl_al (unhide B9)⟩
    · have HIM' := hide (mbI r' s' a' d' t')
      have eL' : mbL r' s' a' d' t' = Y := by unfold mbL; rw [if_pos ok']; exact e'
      have eC' : mbC r' s' a' d' t' = 0 := by unfold mbC; rw [if_pos ok']
      rw [eL', eC'] at HIM'
      clear eL' eC' ok' e' hsp
      obtain ⟨_, c0, c1, c2, c3, c4⟩ := unhide M9
      go_wp2_with fail
      refine (unhide HIM' _).mono ?_
      rintro e w10 ⟨v10, rfl, o10, b10⟩
      have B10 := hide (bl_st b10 (bl_al (o := .cells #[.int .i64 r', .int .i64 s', .int .i64 a', .string d', .string t'] 24) (unhide B9)))
      have cv1 := o10.conv
      have cv2 := ((unhide U9).below b10).conv
      clear o10 b10 U9 M9 c0 c1 c2 c3 c4
      go_wp2
      go_ret
      exact ⟨rfl, unhide B10⟩
end Go.Proofs.YtgdohkemamlnhaaDoor
