/- BoardAdd, as the program has it. -/
import Derived.Test.YtgjkflhpnppkbaaAdd
import Derived.Test.YtgjkflhpnppkbaaFnd
namespace Go.Proofs.Ytgjkflhpnppkbaa
open Go.RowKit
set_option maxHeartbeats 4000000
set_option maxRecDepth 20000
theorem set_same {ps : List Pst} {j : Nat} (h : j < ps.length) : ps.set j (ps.getD j noP) = ps := by
  rw [List.getD_eq_getElem?_getD, List.getElem?_eq_getElem h]
  exact List.set_getElem_self h
theorem sizes32 {ps : List Pst} {p : Pst} (hb : bOK ps = true) (hk : okP p = true) : ∀ i, i < (ps ++ [p]).length → ((ps ++ [p]).getD i noP).2.2.size = 32 := by
  intro i hi
  by_cases h : i < ps.length
  · rw [List.getD_eq_getElem?_getD, List.getElem?_append_left h, ← List.getD_eq_getElem?_getD]
    exact okP_size hb h rfl
  · obtain rfl : i = ps.length := by simp at hi; omega
    rw [List.getD_eq_getElem?_getD, List.getElem?_append_right (Nat.le_refl _)]
    unfold okP at hk
    simp only [Bool.and_eq_true, decide_eq_true_eq] at hk
    simpa using hk.2
theorem add14 (v : Value) (ps : List Pst) (r l : Int) (t : ByteArray) (w : World) (hv : postsV w v ps) (hl : ps.length ≤ 2097152) :
    Calls Try.prog 14 #[v, postV (r, l, t)] w fun e w' => ∃ u, e = .returned (.tuple #[u, .int .i64 (aR ps (r, l, t)).2]) ∧ ownP w.heap.size w'.heap.size w' u (aR ps (r, l, t)).1 ∧ Below w.heap.size w w' := by
  have B0 := hide (show Below w.heap.size w (w.alloc (.cells #[.int .i64 r, .int .i64 l, .string t] 34)) from bl_al (Below.refl _ _))
  have V0 := hide (hv.below (unhide B0))
  have P0 := hide (pc_new w r l t 34)
  have L0 := hide (show w.heap.size < (w.alloc (.cells #[.int .i64 r, .int .i64 l, .string t] 34)).heap.size by simp)
  obtain ⟨A, cap, rfl, x0⟩ := hv
  clear x0
  have n0 : (0 : Int) ≤ (ps.length : Int) := by omega
  have n1 : (ps.length : Int) ≤ 2097152 := by omega
  have H24 := hide (code24 _ ps _ (unhide V0) hl)
  have H21 := hide (fun W => pok21 r l t W)
  unfold bC at H24
  by_cases h4 : 4096 < ps.length
  · rw [aR_a h4]
    rw [if_pos h4] at H24
    clear h4 hl H21
    go_enter Try.func14, Try.ntmps14
    go_wp2_with fail
    refine (unhide H24).mono ?_
    rintro e w1 ⟨rfl, b1⟩
    go_wp2
    go_ret2
    exact ⟨_, rfl, .inl ⟨rfl, rfl⟩, bl_st b1 (unhide B0)⟩
  have q4 : (ps.length : Int) ≤ 4096 := by omega
  have HL := hide (show ps.length ≤ 4096 by omega)
  rw [if_neg h4] at H24
  clear h4 hl
  rcases hb : bOK ps
  · rw [aR_b (unhide HL) hb]
    rw [hb, if_neg (by decide)] at H24
    clear hb
    go_enter Try.func14, Try.ntmps14
    go_wp2_with fail
    refine (unhide H24).mono ?_
    rintro e w1 ⟨rfl, b1⟩
    go_wp2
    go_ret2
    exact ⟨_, rfl, .inl ⟨rfl, rfl⟩, bl_st b1 (unhide B0)⟩
  rw [if_pos hb] at H24
  have HB := hide hb
  clear hb
  go_enter Try.func14, Try.ntmps14
  go_wp2_with fail
  generalize w.alloc (.cells #[.int .i64 r, .int .i64 l, .string t] 34) = w0 at *
  refine (unhide H24).mono ?_
  rintro e w1 ⟨rfl, b1⟩
  have B1 := hide (bl_st b1 (unhide B0))
  have V1 := hide ((unhide V0).below b1)
  have P1 := hide ((unhide P0).below (unhide L0) b1)
  have L1 := hide (Nat.lt_of_lt_of_le (unhide L0) b1.size)
  clear b1 H24 B0 V0 P0 L0
  obtain ⟨c0, c1, c2⟩ := unhide P1
  dsimp only [Nat.zero_add] at c0 c1 c2
  go_wp2_with fail
  refine (unhide H21 _).mono ?_
  rintro e w5 ⟨rfl, b3⟩
  have B5 := hide (bl_st b3 (unhide B1))
  have V5 := hide ((unhide V1).below b3)
  have PA := hide ((unhide P1).below (unhide L1) b3)
  have LA := hide (Nat.lt_of_lt_of_le (unhide L1) b3.size)
  clear b3 B1 V1 P1 L1 H21 c0 c1 c2
  rcases hk : okP (r, l, t)
  · have HR := hide (aR_c (unhide HL) (unhide HB) hk)
    clear hk
    go_wp2
    go_ret2
    exact ⟨_, by rw [unhide HR]; rfl, by rw [unhide HR]; exact .inl ⟨rfl, rfl⟩, unhide B5⟩
  have HK := hide hk
  clear hk
  rcases Nat.eq_zero_or_pos ps.length with e0 | h0
  · have HR := hide (aR_f (unhide HL) (unhide HB) (unhide HK) (.inl e0) (show ps.length ≠ 64 by omega))
    have z : decide (0 < ps.length) = false := decide_eq_false (by omega)
    have z2 : ¬ ((ps.length : Int) = 64) := by omega
    clear e0
    go_wp2
    refine wp_region_held (S := fun W' => Below w5.heap.size w5 W') (by kernel_rfl) ?_
    have hS0 : Below w5.heap.size w5 { w5 with drawn := w5.drawn + 1 } := below_drewN (Below.refl _ _) 1
    refine wpAnyH_take (i := 0) (oi := { dst := some 17, op := Op.move (Operand.tmp 0), type := 25, pos := "l06_board.go:179", after := #[], guard := none }) (v := ?_) rfl (by kernel_rfl) (by kernel_rfl) (by kernel_rfl) (fun _ _ _ h => h) (Or.inl ⟨by rfl, ?_⟩) hS0 ?_
    rotate_left
    · intro W hSw
      go_simp
      try with_reducible rfl
    simp only [Act.put, List.setIfInBounds_toArray, List.set_cons_zero, List.set_cons_succ]
    refine wpAnyH_take (i := 1) (oi := { dst := some 18, op := Op.call { callee := Callee.builtin Builtin.len, args := #[Operand.tmp 17], argTypes := #[25] }, type := 3, pos := "l06_board.go:179", after := #[{ on := 0, ground := Ground.data }], guard := none }) (v := ?_) rfl (by kernel_rfl) (by kernel_rfl) (by kernel_rfl) (fun _ _ _ h => h) (Or.inl ⟨by rfl, ?_⟩) hS0 ?_
    rotate_left
    · intro W hSw
      go_simp
      try with_reducible rfl
    simp only [Act.put, List.setIfInBounds_toArray, List.set_cons_zero, List.set_cons_succ]
    refine wpAnyH_take (i := 2) (oi := { dst := some 19, op := Op.binOp BinOp.gtr 3 (Operand.tmp 18) (Operand.const (Value.int IntKind.i64 0)) 3, type := 4, pos := "l06_board.go:179", after := #[{ on := 1, ground := Ground.data }], guard := none }) (v := ?_) rfl (by kernel_rfl) (by kernel_rfl) (by kernel_rfl) (fun _ _ _ h => h) (Or.inl ⟨by rfl, ?_⟩) hS0 ?_
    rotate_left
    · intro W hSw
      go_simp
      try with_reducible rfl
    simp only [Act.put, List.setIfInBounds_toArray, List.set_cons_zero, List.set_cons_succ]
    refine wpAnyH_take (i := 3) (oi := { dst := some 20, op := Op.move (Operand.tmp 19), type := 4, pos := "l06_board.go:179", after := #[{ on := 2, ground := Ground.data }], guard := none }) (v := ?_) rfl (by kernel_rfl) (by kernel_rfl) (by kernel_rfl) (fun _ _ _ h => h) (Or.inl ⟨by rfl, ?_⟩) hS0 ?_
    rotate_left
    · intro W hSw
      go_simp
      try with_reducible rfl
    simp only [Act.put, List.setIfInBounds_toArray, List.set_cons_zero, List.set_cons_succ]
    try simp only [z]
    refine wpAnyH_take (i := 4) (oi := { dst := some 21, op := Op.load 34 (Operand.tmp 3), type := 34, pos := "l06_board.go:179", after := #[{ on := 3, ground := Ground.guard }], guard := some (3, true) }) (v := undef) rfl (by kernel_rfl) (by kernel_rfl) (by kernel_rfl) (fun _ _ _ h => h) (Or.inr ⟨by rfl, rfl⟩) hS0 ?_
    simp only [Act.put, List.setIfInBounds_toArray, List.set_cons_zero, List.set_cons_succ]
    refine wpAnyH_take (i := 5) (oi := { dst := some 22, op := Op.move (Operand.tmp 0), type := 25, pos := "l06_board.go:179", after := #[{ on := 3, ground := Ground.guard }], guard := some (3, true) }) (v := undef) rfl (by kernel_rfl) (by kernel_rfl) (by kernel_rfl) (fun _ _ _ h => h) (Or.inr ⟨by rfl, rfl⟩) hS0 ?_
    simp only [Act.put, List.setIfInBounds_toArray, List.set_cons_zero, List.set_cons_succ]
    refine wpAnyH_take (i := 6) (oi := { dst := some 23, op := Op.move (Operand.tmp 0), type := 25, pos := "l06_board.go:179", after := #[{ on := 3, ground := Ground.guard }], guard := some (3, true) }) (v := undef) rfl (by kernel_rfl) (by kernel_rfl) (by kernel_rfl) (fun _ _ _ h => h) (Or.inr ⟨by rfl, rfl⟩) hS0 ?_
    simp only [Act.put, List.setIfInBounds_toArray, List.set_cons_zero, List.set_cons_succ]
    refine wpAnyH_take (i := 7) (oi := { dst := some 24, op := Op.call { callee := Callee.builtin Builtin.len, args := #[Operand.tmp 23], argTypes := #[25] }, type := 3, pos := "l06_board.go:179", after := #[{ on := 6, ground := Ground.data }, { on := 3, ground := Ground.guard }], guard := some (3, true) }) (v := undef) rfl (by kernel_rfl) (by kernel_rfl) (by kernel_rfl) (fun _ _ _ h => h) (Or.inr ⟨by rfl, rfl⟩) hS0 ?_
    simp only [Act.put, List.setIfInBounds_toArray, List.set_cons_zero, List.set_cons_succ]
    refine wpAnyH_take (i := 8) (oi := { dst := some 25, op := Op.binOp BinOp.sub 3 (Operand.tmp 24) (Operand.const (Value.int IntKind.i64 1)) 3, type := 3, pos := "l06_board.go:179", after := #[{ on := 7, ground := Ground.data }, { on := 3, ground := Ground.guard }], guard := some (3, true) }) (v := undef) rfl (by kernel_rfl) (by kernel_rfl) (by kernel_rfl) (fun _ _ _ h => h) (Or.inr ⟨by rfl, rfl⟩) hS0 ?_
    simp only [Act.put, List.setIfInBounds_toArray, List.set_cons_zero, List.set_cons_succ]
    refine wpAnyH_take (i := 9) (oi := { dst := some 26, op := Op.indexAddr 25 (Operand.tmp 22) (Operand.tmp 25), type := 0, pos := "l06_board.go:179", after := #[{ on := 5, ground := Ground.data }, { on := 8, ground := Ground.data }, { on := 3, ground := Ground.guard }], guard := some (3, true) }) (v := undef) rfl (by kernel_rfl) (by kernel_rfl) (by kernel_rfl) (fun _ _ _ h => h) (Or.inr ⟨by rfl, rfl⟩) hS0 ?_
    simp only [Act.put, List.setIfInBounds_toArray, List.set_cons_zero, List.set_cons_succ]
    refine wpAnyH_take (i := 10) (oi := { dst := some 27, op := Op.load 34 (Operand.tmp 26), type := 34, pos := "l06_board.go:179", after := #[{ on := 9, ground := Ground.data }, { on := 3, ground := Ground.guard }], guard := some (3, true) }) (v := undef) rfl (by kernel_rfl) (by kernel_rfl) (by kernel_rfl) (fun _ _ _ h => h) (Or.inr ⟨by rfl, rfl⟩) hS0 ?_
    simp only [Act.put, List.setIfInBounds_toArray, List.set_cons_zero, List.set_cons_succ]
    refine wpAnyH_take (i := 11) (oi := { dst := some 28, op := Op.call { callee := Callee.value (Operand.func 22), args := #[Operand.tmp 21, Operand.tmp 27], argTypes := #[34, 34] }, type := 4, pos := "l06_board.go:179", after := #[{ on := 4, ground := Ground.data }, { on := 10, ground := Ground.data }, { on := 3, ground := Ground.chain }, { on := 3, ground := Ground.guard }], guard := some (3, true) }) (v := undef) rfl (by kernel_rfl) (by kernel_rfl) (by kernel_rfl) (fun _ _ _ h => h) (Or.inr ⟨by rfl, rfl⟩) hS0 ?_
    simp only [Act.put, List.setIfInBounds_toArray, List.set_cons_zero, List.set_cons_succ]
    refine wpAnyH_take (i := 12) (oi := { dst := some 29, op := Op.unOp UnOp.not 4 (Operand.tmp 28), type := 4, pos := "l06_board.go:179", after := #[{ on := 11, ground := Ground.data }, { on := 3, ground := Ground.guard }], guard := some (3, true) }) (v := undef) rfl (by kernel_rfl) (by kernel_rfl) (by kernel_rfl) (fun _ _ _ h => h) (Or.inr ⟨by rfl, rfl⟩) hS0 ?_
    simp only [Act.put, List.setIfInBounds_toArray, List.set_cons_zero, List.set_cons_succ]
    refine wpAnyH_take (i := 13) (oi := { dst := some 30, op := Op.pick (Operand.tmp 20) (Operand.tmp 29) (Operand.const (Value.bool false)), type := 4, pos := "l06_board.go:179", after := #[{ on := 3, ground := Ground.data }, { on := 12, ground := Ground.data }], guard := none }) (v := ?_) rfl (by kernel_rfl) (by kernel_rfl) (by kernel_rfl) (fun _ _ _ h => h) (Or.inl ⟨by rfl, ?_⟩) hS0 ?_
    rotate_left
    · intro W hSw
      go_simp
      try with_reducible rfl
    simp only [Act.put, List.setIfInBounds_toArray, List.set_cons_zero, List.set_cons_succ]
    refine wpAnyH_done (by kernel_rfl) ?_ _
    have B6 := hide (bl_st hS0 (unhide B5))
    have V6 := hide ((unhide V5).below hS0)
    have P6 := hide ((unhide PA).below (unhide LA) hS0)
    have L6 := hide (Nat.lt_of_lt_of_le (unhide LA) hS0.size)
    clear hS0
    generalize ({ w5 with drawn := w5.drawn + 1 } : World) = w6 at *
    clear PA LA V5 B5
    obtain ⟨c0, c1, c2⟩ := unhide P6
    dsimp only [Nat.zero_add] at c0 c1 c2
    go_wp2_with fail
    have b7 : Below w6.heap.size w6 (w6.alloc (.cells #[.int .i64 r, .int .i64 l, .string t] 34)) := bl_al (Below.refl _ _)
    have U7 := posts_one (heap_at w6 (.cells #[.int .i64 r, .int .i64 l, .string t] 34) _ rfl)
    have V7 := (unhide V6).below b7
    have B7 := bl_st b7 (unhide B6)
    have E7 : (w6.alloc (.cells #[.int .i64 r, .int .i64 l, .string t] 34)).heap.size = w6.heap.size + 1 := by simp
    generalize w6.alloc (.cells #[.int .i64 r, .int .i64 l, .string t] 34) = w7 at *
    have b8 : Below w7.heap.size w7 (w7.alloc (.cells #[.slice A ps.length cap, .slice (some ⟨w6.heap.size, 0, none⟩) 1 1] 25)) := bl_al (Below.refl _ _)
    have N8 := heap_at w7 (.cells #[.slice A ps.length cap, .slice (some ⟨w6.heap.size, 0, none⟩) 1 1] 25) _ rfl
    have U8 := U7.below b8
    have V8 := V7.below b8
    have B8 := bl_st b8 B7
    rw [E7] at N8
    generalize w7.alloc (.cells #[.slice A ps.length cap, .slice (some ⟨w6.heap.size, 0, none⟩) 1 1] 25) = w8 at *
    have S8 := hide B8.size
    refine (cat25 _ _ _ ps [(r, l, t)] w8 N8 V8 U8 (by simp) (by have := unhide HL; simp; omega)).mono ?_
    rintro e w9 ⟨g, c, rfl, o9, b9⟩
    obtain ⟨g', cap9, rest, eg, hgb, hgl, hcap, hlen, hob⟩ := own_row o9 ⟨_, _, rfl⟩
    simp only [Value.slice.injEq, Option.some.injEq, Addr.mk.injEq, and_true, true_and] at eg
    obtain ⟨rfl, rfl⟩ := eg
    rw [List.length_singleton] at *
    have B9 := hide (bl_st b9 B8)
    have HOB := hide hob
    have HCP := hide hcap
    have HGB := hide (Nat.le_trans (unhide S8) hgb)
    have HGL := hide hgl
    have HSZ := hide (sizes32 (unhide HB) (unhide HK))
    have n3 : (0 : Int) ≤ (ps.length : Int) + 1 := by omega
    clear b7 U7 V7 B7 E7 b8 N8 U8 V8 B8 S8 o9 b9 hgb hgl hcap hlen hob c0 c1 c2 P6 L6 V6 B6
    go_wp2
    go_loopw [41] (fun i wr => ∃ j : Nat, j ≤ ps.length + 1 ∧ i = .int .i64 j ∧ wr.heap[g]? = some (pstO (ps ++ [(r, l, t)]) rest) ∧ g < wr.heap.size ∧ Below w.heap.size w wr) (fun i _ => ps.length + 1 - (intOf i).toNat)
    case atStart => exact ⟨0, by omega, rfl, unhide HOB, unhide HGL, unhide B9⟩
    case round =>
      obtain ⟨j, hj, rfl, ho, hgl, hbl⟩ := hrel
      by_cases hlt : j < ps.length + 1
      · have q1 : (j : Int) < (ps.length : Int) + 1 := by omega
        have q0 : (0 : Int) ≤ (j : Int) := by omega
        have hll : j < (ps ++ [(r, l, t)]).length := by simpa using hlt
        have pc := cell_pstO ho j hll
        have hsz := unhide HSZ j hll
        have HS2 := hide (flat_set2 (ps ++ [(r, l, t)]) j rest ((ps ++ [(r, l, t)]).getD j noP).2.2 hll)
        rw [show (ps ++ [(r, l, t)]).set j (((ps ++ [(r, l, t)]).getD j noP).1, ((ps ++ [(r, l, t)]).getD j noP).2.1, ((ps ++ [(r, l, t)]).getD j noP).2.2) = ps ++ [(r, l, t)] from set_same hll] at HS2
        have HJ := hide hlt
        have HO := hide ho
        have HG := hide hgl
        have HBL := hide hbl
        clear ho hgl hbl hlt hj hll
        generalize (ps ++ [(r, l, t)]).getD j noP = m at *
        obtain ⟨m0, m1, m2⟩ := m
        obtain ⟨c0, c1, c2⟩ := pc
        dsimp only at c0 c1 c2 hsz HS2
        have H26 := hide (clone26 m2 wr (by omega) (by omega))
        clear hsz
        go_wp2_with fail
        refine (unhide H26).mono ?_
        rintro e wa ⟨rfl, ba⟩
        have ho := (ba.block g (unhide HG)).trans (unhide HO)
        have y2 := free_pstO ho (j * 3 + 2)
        have d2 := (cell_below ba (unhide HG)).trans c2
        have P3 := hide (set_pstO ho (unhide HS2))
        have B3 := hide (bl_set (q := g) (i := j * 3 + 2) (v := .string m2) (bl_st ba (unhide HBL)) (unhide HGB))
        have G3 := hide (show g < (wa.setCell ⟨g, j * 3 + 2, none⟩ (.string m2)).heap.size by rw [size_set]; exact Nat.lt_of_lt_of_le (unhide HG) ba.size)
        clear ho ba c0 c1 c2 H26 HS2
        go_wp2
        go_roundw
        case rel => exact ⟨j + 1, unhide HJ, by go_num, unhide P3, unhide G3, unhide B3⟩
        case measure => have := unhide HJ; simp [intOf]; omega
      · obtain rfl : j = ps.length + 1 := by omega
        have HO := hide ho
        have HG := hide hgl
        have HBL := hide hbl
        clear ho hgl hbl hlt
        go_wp2
        go_ret2
        exact ⟨_, by rw [unhide HR]; rfl, by rw [unhide HR]; exact .inr ⟨g, c, rest, by simp, unhide HGB, unhide HG, unhide HO, by simpa using unhide HCP⟩, unhide HBL⟩
  · obtain ⟨A', cap', ev, hc⟩ := unhide V5
    simp only [Value.slice.injEq] at ev
    obtain ⟨rfl, _, rfl⟩ := ev
    obtain ⟨b, off, hA, lb, hcc⟩ := hc h0
    clear hc
    subst hA
    have PB := hide (posts_last h0 hcc)
    have LB := hide lb
    have z : decide (0 < ps.length) = true := decide_eq_true h0
    have wk : IntKind.i64.wrap ((ps.length : Int) - 1) = (((ps.length - 1 : Nat)) : Int) := by rw [IntKind.wrap_i64]; omega
    have k0 : (0 : Int) ≤ ((ps.length - 1 : Nat) : Int) := by omega
    have kl : ((ps.length - 1 : Nat) : Int) < (ps.length : Int) := by omega
    have H0 := hide h0
    clear lb hcc
    generalize hq : lastP ps = q at *
    obtain ⟨r', l', t'⟩ := q
    have HQ := hide hq
    have L22 := hide (fun W => later22 r l r' l' t t' W)
    clear hq h0
    rcases hlt : later (r', l', t') (r, l, t)
    · have HR := hide (aR_d (unhide HL) (unhide HB) (unhide HK) (unhide H0) (by rw [unhide HQ]; exact hlt))
      rw [hlt] at L22
      clear hlt
      go_wp2
      refine wp_region_held (S := fun W' => Below w5.heap.size w5 W') (by kernel_rfl) ?_
      have hS0 : Below w5.heap.size w5 { w5 with drawn := w5.drawn + 1 } := below_drewN (Below.refl _ _) 1
      refine wpAnyH_take (i := 0) (oi := { dst := some 17, op := Op.move (Operand.tmp 0), type := 25, pos := "l06_board.go:179", after := #[], guard := none }) (v := ?_) rfl (by kernel_rfl) (by kernel_rfl) (by kernel_rfl) (fun _ _ _ h => h) (Or.inl ⟨by rfl, ?_⟩) hS0 ?_
      rotate_left
      · intro W hSw
        obtain ⟨c0, c1, c2⟩ := (unhide PA).below (unhide LA) hSw
        obtain ⟨d0, d1, d2⟩ := (unhide PB).below (unhide LB) hSw
        dsimp only [Nat.zero_add] at c0 c1 c2 d0 d1 d2
        go_simp
        try with_reducible rfl
      simp only [Act.put, List.setIfInBounds_toArray, List.set_cons_zero, List.set_cons_succ]
      refine wpAnyH_take (i := 1) (oi := { dst := some 18, op := Op.call { callee := Callee.builtin Builtin.len, args := #[Operand.tmp 17], argTypes := #[25] }, type := 3, pos := "l06_board.go:179", after := #[{ on := 0, ground := Ground.data }], guard := none }) (v := ?_) rfl (by kernel_rfl) (by kernel_rfl) (by kernel_rfl) (fun _ _ _ h => h) (Or.inl ⟨by rfl, ?_⟩) hS0 ?_
      rotate_left
      · intro W hSw
        obtain ⟨c0, c1, c2⟩ := (unhide PA).below (unhide LA) hSw
        obtain ⟨d0, d1, d2⟩ := (unhide PB).below (unhide LB) hSw
        dsimp only [Nat.zero_add] at c0 c1 c2 d0 d1 d2
        go_simp
        try with_reducible rfl
      simp only [Act.put, List.setIfInBounds_toArray, List.set_cons_zero, List.set_cons_succ]
      refine wpAnyH_take (i := 2) (oi := { dst := some 19, op := Op.binOp BinOp.gtr 3 (Operand.tmp 18) (Operand.const (Value.int IntKind.i64 0)) 3, type := 4, pos := "l06_board.go:179", after := #[{ on := 1, ground := Ground.data }], guard := none }) (v := ?_) rfl (by kernel_rfl) (by kernel_rfl) (by kernel_rfl) (fun _ _ _ h => h) (Or.inl ⟨by rfl, ?_⟩) hS0 ?_
      rotate_left
      · intro W hSw
        obtain ⟨c0, c1, c2⟩ := (unhide PA).below (unhide LA) hSw
        obtain ⟨d0, d1, d2⟩ := (unhide PB).below (unhide LB) hSw
        dsimp only [Nat.zero_add] at c0 c1 c2 d0 d1 d2
        go_simp
        try with_reducible rfl
      simp only [Act.put, List.setIfInBounds_toArray, List.set_cons_zero, List.set_cons_succ]
      refine wpAnyH_take (i := 3) (oi := { dst := some 20, op := Op.move (Operand.tmp 19), type := 4, pos := "l06_board.go:179", after := #[{ on := 2, ground := Ground.data }], guard := none }) (v := ?_) rfl (by kernel_rfl) (by kernel_rfl) (by kernel_rfl) (fun _ _ _ h => h) (Or.inl ⟨by rfl, ?_⟩) hS0 ?_
      rotate_left
      · intro W hSw
        obtain ⟨c0, c1, c2⟩ := (unhide PA).below (unhide LA) hSw
        obtain ⟨d0, d1, d2⟩ := (unhide PB).below (unhide LB) hSw
        dsimp only [Nat.zero_add] at c0 c1 c2 d0 d1 d2
        go_simp
        try with_reducible rfl
      simp only [Act.put, List.setIfInBounds_toArray, List.set_cons_zero, List.set_cons_succ]
      try simp only [z]
      refine wpAnyH_take (i := 4) (oi := { dst := some 21, op := Op.load 34 (Operand.tmp 3), type := 34, pos := "l06_board.go:179", after := #[{ on := 3, ground := Ground.guard }], guard := some (3, true) }) (v := ?_) rfl (by kernel_rfl) (by kernel_rfl) (by kernel_rfl) (fun _ _ _ h => h) (Or.inl ⟨by rfl, ?_⟩) hS0 ?_
      rotate_left
      · intro W hSw
        obtain ⟨c0, c1, c2⟩ := (unhide PA).below (unhide LA) hSw
        obtain ⟨d0, d1, d2⟩ := (unhide PB).below (unhide LB) hSw
        dsimp only [Nat.zero_add] at c0 c1 c2 d0 d1 d2
        go_simp
        try with_reducible rfl
      simp only [Act.put, List.setIfInBounds_toArray, List.set_cons_zero, List.set_cons_succ]
      refine wpAnyH_take (i := 5) (oi := { dst := some 22, op := Op.move (Operand.tmp 0), type := 25, pos := "l06_board.go:179", after := #[{ on := 3, ground := Ground.guard }], guard := some (3, true) }) (v := ?_) rfl (by kernel_rfl) (by kernel_rfl) (by kernel_rfl) (fun _ _ _ h => h) (Or.inl ⟨by rfl, ?_⟩) hS0 ?_
      rotate_left
      · intro W hSw
        obtain ⟨c0, c1, c2⟩ := (unhide PA).below (unhide LA) hSw
        obtain ⟨d0, d1, d2⟩ := (unhide PB).below (unhide LB) hSw
        dsimp only [Nat.zero_add] at c0 c1 c2 d0 d1 d2
        go_simp
        try with_reducible rfl
      simp only [Act.put, List.setIfInBounds_toArray, List.set_cons_zero, List.set_cons_succ]
      refine wpAnyH_take (i := 6) (oi := { dst := some 23, op := Op.move (Operand.tmp 0), type := 25, pos := "l06_board.go:179", after := #[{ on := 3, ground := Ground.guard }], guard := some (3, true) }) (v := ?_) rfl (by kernel_rfl) (by kernel_rfl) (by kernel_rfl) (fun _ _ _ h => h) (Or.inl ⟨by rfl, ?_⟩) hS0 ?_
      rotate_left
      · intro W hSw
        obtain ⟨c0, c1, c2⟩ := (unhide PA).below (unhide LA) hSw
        obtain ⟨d0, d1, d2⟩ := (unhide PB).below (unhide LB) hSw
        dsimp only [Nat.zero_add] at c0 c1 c2 d0 d1 d2
        go_simp
        try with_reducible rfl
      simp only [Act.put, List.setIfInBounds_toArray, List.set_cons_zero, List.set_cons_succ]
      refine wpAnyH_take (i := 7) (oi := { dst := some 24, op := Op.call { callee := Callee.builtin Builtin.len, args := #[Operand.tmp 23], argTypes := #[25] }, type := 3, pos := "l06_board.go:179", after := #[{ on := 6, ground := Ground.data }, { on := 3, ground := Ground.guard }], guard := some (3, true) }) (v := ?_) rfl (by kernel_rfl) (by kernel_rfl) (by kernel_rfl) (fun _ _ _ h => h) (Or.inl ⟨by rfl, ?_⟩) hS0 ?_
      rotate_left
      · intro W hSw
        obtain ⟨c0, c1, c2⟩ := (unhide PA).below (unhide LA) hSw
        obtain ⟨d0, d1, d2⟩ := (unhide PB).below (unhide LB) hSw
        dsimp only [Nat.zero_add] at c0 c1 c2 d0 d1 d2
        go_simp
        try with_reducible rfl
      simp only [Act.put, List.setIfInBounds_toArray, List.set_cons_zero, List.set_cons_succ]
      refine wpAnyH_take (i := 8) (oi := { dst := some 25, op := Op.binOp BinOp.sub 3 (Operand.tmp 24) (Operand.const (Value.int IntKind.i64 1)) 3, type := 3, pos := "l06_board.go:179", after := #[{ on := 7, ground := Ground.data }, { on := 3, ground := Ground.guard }], guard := some (3, true) }) (v := ?_) rfl (by kernel_rfl) (by kernel_rfl) (by kernel_rfl) (fun _ _ _ h => h) (Or.inl ⟨by rfl, ?_⟩) hS0 ?_
      rotate_left
      · intro W hSw
        obtain ⟨c0, c1, c2⟩ := (unhide PA).below (unhide LA) hSw
        obtain ⟨d0, d1, d2⟩ := (unhide PB).below (unhide LB) hSw
        dsimp only [Nat.zero_add] at c0 c1 c2 d0 d1 d2
        go_simp
        try with_reducible rfl
      simp only [Act.put, List.setIfInBounds_toArray, List.set_cons_zero, List.set_cons_succ]
      refine wpAnyH_take (i := 9) (oi := { dst := some 26, op := Op.indexAddr 25 (Operand.tmp 22) (Operand.tmp 25), type := 0, pos := "l06_board.go:179", after := #[{ on := 5, ground := Ground.data }, { on := 8, ground := Ground.data }, { on := 3, ground := Ground.guard }], guard := some (3, true) }) (v := ?_) rfl (by kernel_rfl) (by kernel_rfl) (by kernel_rfl) (fun _ _ _ h => h) (Or.inl ⟨by rfl, ?_⟩) hS0 ?_
      rotate_left
      · intro W hSw
        obtain ⟨c0, c1, c2⟩ := (unhide PA).below (unhide LA) hSw
        obtain ⟨d0, d1, d2⟩ := (unhide PB).below (unhide LB) hSw
        dsimp only [Nat.zero_add] at c0 c1 c2 d0 d1 d2
        go_simp
        try with_reducible rfl
      simp only [Act.put, List.setIfInBounds_toArray, List.set_cons_zero, List.set_cons_succ]
      refine wpAnyH_take (i := 10) (oi := { dst := some 27, op := Op.load 34 (Operand.tmp 26), type := 34, pos := "l06_board.go:179", after := #[{ on := 9, ground := Ground.data }, { on := 3, ground := Ground.guard }], guard := some (3, true) }) (v := ?_) rfl (by kernel_rfl) (by kernel_rfl) (by kernel_rfl) (fun _ _ _ h => h) (Or.inl ⟨by rfl, ?_⟩) hS0 ?_
      rotate_left
      · intro W hSw
        obtain ⟨c0, c1, c2⟩ := (unhide PA).below (unhide LA) hSw
        obtain ⟨d0, d1, d2⟩ := (unhide PB).below (unhide LB) hSw
        dsimp only [Nat.zero_add] at c0 c1 c2 d0 d1 d2
        go_simp
        try with_reducible rfl
      simp only [Act.put, List.setIfInBounds_toArray, List.set_cons_zero, List.set_cons_succ]
      refine wpAnyH_one (i := 11) (by kernel_rfl) ?_
      refine wpOp_step (o := { dst := some 28, op := Op.call { callee := Callee.value (Operand.func 22), args := #[Operand.tmp 21, Operand.tmp 27], argTypes := #[34, 34] }, type := 4, pos := "l06_board.go:179", after := #[{ on := 4, ground := Ground.data }, { on := 10, ground := Ground.data }, { on := 3, ground := Ground.chain }, { on := 3, ground := Ground.guard }], guard := some (3, true) }) rfl fun K' hK => step_enterW (by rfl) 22 #[postV (r, l, t), postV (r', l', t')] (by go_simp) ((unhide L22 _).mono ?_)
      rintro e w6 ⟨rfl, b1⟩
      have s1 := bl_st b1 hS0
      clear b1
      refine ⟨_, rfl, hK _ _ ⟨s1, ?_⟩⟩
      simp only [Act.put, List.setIfInBounds_toArray, List.set_cons_zero, List.set_cons_succ]
      refine wpAnyH_take (i := 12) (oi := { dst := some 29, op := Op.unOp UnOp.not 4 (Operand.tmp 28), type := 4, pos := "l06_board.go:179", after := #[{ on := 11, ground := Ground.data }, { on := 3, ground := Ground.guard }], guard := some (3, true) }) (v := ?_) rfl (by kernel_rfl) (by kernel_rfl) (by kernel_rfl) (fun _ _ _ h => h) (Or.inl ⟨by rfl, ?_⟩) s1 ?_
      rotate_left
      · intro W hSw
        go_simp
        try with_reducible rfl
      simp only [Act.put, List.setIfInBounds_toArray, List.set_cons_zero, List.set_cons_succ]
      refine wpAnyH_take (i := 13) (oi := { dst := some 30, op := Op.pick (Operand.tmp 20) (Operand.tmp 29) (Operand.const (Value.bool false)), type := 4, pos := "l06_board.go:179", after := #[{ on := 3, ground := Ground.data }, { on := 12, ground := Ground.data }], guard := none }) (v := ?_) rfl (by kernel_rfl) (by kernel_rfl) (by kernel_rfl) (fun _ _ _ h => h) (Or.inl ⟨by rfl, ?_⟩) s1 ?_
      rotate_left
      · intro W hSw
        go_simp
        try with_reducible rfl
      simp only [Act.put, List.setIfInBounds_toArray, List.set_cons_zero, List.set_cons_succ]
      refine wpAnyH_done (by kernel_rfl) ?_ _
      have B6 := hide (bl_st s1 (unhide B5))
      have V6 := hide ((unhide V5).below s1)
      have P6 := hide ((unhide PA).below (unhide LA) s1)
      have L6 := hide (Nat.lt_of_lt_of_le (unhide LA) s1.size)
      clear s1 hS0
      go_wp2
      go_ret2
      exact ⟨_, by rw [unhide HR]; rfl, by rw [unhide HR]; exact .inl ⟨rfl, rfl⟩, unhide B6⟩
    rw [hlt] at L22
    by_cases h6 : ps.length = 64
    · have HR := hide (aR_e (unhide HL) (unhide HB) (unhide HK) (by rw [unhide HQ]; exact hlt) h6)
      have Z2 := hide (show (ps.length : Int) = 64 by omega)
      clear hlt h6
      go_wp2
      refine wp_region_held (S := fun W' => Below w5.heap.size w5 W') (by kernel_rfl) ?_
      have hS0 : Below w5.heap.size w5 { w5 with drawn := w5.drawn + 1 } := below_drewN (Below.refl _ _) 1
      refine wpAnyH_take (i := 0) (oi := { dst := some 17, op := Op.move (Operand.tmp 0), type := 25, pos := "l06_board.go:179", after := #[], guard := none }) (v := ?_) rfl (by kernel_rfl) (by kernel_rfl) (by kernel_rfl) (fun _ _ _ h => h) (Or.inl ⟨by rfl, ?_⟩) hS0 ?_
      rotate_left
      · intro W hSw
        obtain ⟨c0, c1, c2⟩ := (unhide PA).below (unhide LA) hSw
        obtain ⟨d0, d1, d2⟩ := (unhide PB).below (unhide LB) hSw
        dsimp only [Nat.zero_add] at c0 c1 c2 d0 d1 d2
        go_simp
        try with_reducible rfl
      simp only [Act.put, List.setIfInBounds_toArray, List.set_cons_zero, List.set_cons_succ]
      refine wpAnyH_take (i := 1) (oi := { dst := some 18, op := Op.call { callee := Callee.builtin Builtin.len, args := #[Operand.tmp 17], argTypes := #[25] }, type := 3, pos := "l06_board.go:179", after := #[{ on := 0, ground := Ground.data }], guard := none }) (v := ?_) rfl (by kernel_rfl) (by kernel_rfl) (by kernel_rfl) (fun _ _ _ h => h) (Or.inl ⟨by rfl, ?_⟩) hS0 ?_
      rotate_left
      · intro W hSw
        obtain ⟨c0, c1, c2⟩ := (unhide PA).below (unhide LA) hSw
        obtain ⟨d0, d1, d2⟩ := (unhide PB).below (unhide LB) hSw
        dsimp only [Nat.zero_add] at c0 c1 c2 d0 d1 d2
        go_simp
        try with_reducible rfl
      simp only [Act.put, List.setIfInBounds_toArray, List.set_cons_zero, List.set_cons_succ]
      refine wpAnyH_take (i := 2) (oi := { dst := some 19, op := Op.binOp BinOp.gtr 3 (Operand.tmp 18) (Operand.const (Value.int IntKind.i64 0)) 3, type := 4, pos := "l06_board.go:179", after := #[{ on := 1, ground := Ground.data }], guard := none }) (v := ?_) rfl (by kernel_rfl) (by kernel_rfl) (by kernel_rfl) (fun _ _ _ h => h) (Or.inl ⟨by rfl, ?_⟩) hS0 ?_
      rotate_left
      · intro W hSw
        obtain ⟨c0, c1, c2⟩ := (unhide PA).below (unhide LA) hSw
        obtain ⟨d0, d1, d2⟩ := (unhide PB).below (unhide LB) hSw
        dsimp only [Nat.zero_add] at c0 c1 c2 d0 d1 d2
        go_simp
        try with_reducible rfl
      simp only [Act.put, List.setIfInBounds_toArray, List.set_cons_zero, List.set_cons_succ]
      refine wpAnyH_take (i := 3) (oi := { dst := some 20, op := Op.move (Operand.tmp 19), type := 4, pos := "l06_board.go:179", after := #[{ on := 2, ground := Ground.data }], guard := none }) (v := ?_) rfl (by kernel_rfl) (by kernel_rfl) (by kernel_rfl) (fun _ _ _ h => h) (Or.inl ⟨by rfl, ?_⟩) hS0 ?_
      rotate_left
      · intro W hSw
        obtain ⟨c0, c1, c2⟩ := (unhide PA).below (unhide LA) hSw
        obtain ⟨d0, d1, d2⟩ := (unhide PB).below (unhide LB) hSw
        dsimp only [Nat.zero_add] at c0 c1 c2 d0 d1 d2
        go_simp
        try with_reducible rfl
      simp only [Act.put, List.setIfInBounds_toArray, List.set_cons_zero, List.set_cons_succ]
      try simp only [z]
      refine wpAnyH_take (i := 4) (oi := { dst := some 21, op := Op.load 34 (Operand.tmp 3), type := 34, pos := "l06_board.go:179", after := #[{ on := 3, ground := Ground.guard }], guard := some (3, true) }) (v := ?_) rfl (by kernel_rfl) (by kernel_rfl) (by kernel_rfl) (fun _ _ _ h => h) (Or.inl ⟨by rfl, ?_⟩) hS0 ?_
      rotate_left
      · intro W hSw
        obtain ⟨c0, c1, c2⟩ := (unhide PA).below (unhide LA) hSw
        obtain ⟨d0, d1, d2⟩ := (unhide PB).below (unhide LB) hSw
        dsimp only [Nat.zero_add] at c0 c1 c2 d0 d1 d2
        go_simp
        try with_reducible rfl
      simp only [Act.put, List.setIfInBounds_toArray, List.set_cons_zero, List.set_cons_succ]
      refine wpAnyH_take (i := 5) (oi := { dst := some 22, op := Op.move (Operand.tmp 0), type := 25, pos := "l06_board.go:179", after := #[{ on := 3, ground := Ground.guard }], guard := some (3, true) }) (v := ?_) rfl (by kernel_rfl) (by kernel_rfl) (by kernel_rfl) (fun _ _ _ h => h) (Or.inl ⟨by rfl, ?_⟩) hS0 ?_
      rotate_left
      · intro W hSw
        obtain ⟨c0, c1, c2⟩ := (unhide PA).below (unhide LA) hSw
        obtain ⟨d0, d1, d2⟩ := (unhide PB).below (unhide LB) hSw
        dsimp only [Nat.zero_add] at c0 c1 c2 d0 d1 d2
        go_simp
        try with_reducible rfl
      simp only [Act.put, List.setIfInBounds_toArray, List.set_cons_zero, List.set_cons_succ]
      refine wpAnyH_take (i := 6) (oi := { dst := some 23, op := Op.move (Operand.tmp 0), type := 25, pos := "l06_board.go:179", after := #[{ on := 3, ground := Ground.guard }], guard := some (3, true) }) (v := ?_) rfl (by kernel_rfl) (by kernel_rfl) (by kernel_rfl) (fun _ _ _ h => h) (Or.inl ⟨by rfl, ?_⟩) hS0 ?_
      rotate_left
      · intro W hSw
        obtain ⟨c0, c1, c2⟩ := (unhide PA).below (unhide LA) hSw
        obtain ⟨d0, d1, d2⟩ := (unhide PB).below (unhide LB) hSw
        dsimp only [Nat.zero_add] at c0 c1 c2 d0 d1 d2
        go_simp
        try with_reducible rfl
      simp only [Act.put, List.setIfInBounds_toArray, List.set_cons_zero, List.set_cons_succ]
      refine wpAnyH_take (i := 7) (oi := { dst := some 24, op := Op.call { callee := Callee.builtin Builtin.len, args := #[Operand.tmp 23], argTypes := #[25] }, type := 3, pos := "l06_board.go:179", after := #[{ on := 6, ground := Ground.data }, { on := 3, ground := Ground.guard }], guard := some (3, true) }) (v := ?_) rfl (by kernel_rfl) (by kernel_rfl) (by kernel_rfl) (fun _ _ _ h => h) (Or.inl ⟨by rfl, ?_⟩) hS0 ?_
      rotate_left
      · intro W hSw
        obtain ⟨c0, c1, c2⟩ := (unhide PA).below (unhide LA) hSw
        obtain ⟨d0, d1, d2⟩ := (unhide PB).below (unhide LB) hSw
        dsimp only [Nat.zero_add] at c0 c1 c2 d0 d1 d2
        go_simp
        try with_reducible rfl
      simp only [Act.put, List.setIfInBounds_toArray, List.set_cons_zero, List.set_cons_succ]
      refine wpAnyH_take (i := 8) (oi := { dst := some 25, op := Op.binOp BinOp.sub 3 (Operand.tmp 24) (Operand.const (Value.int IntKind.i64 1)) 3, type := 3, pos := "l06_board.go:179", after := #[{ on := 7, ground := Ground.data }, { on := 3, ground := Ground.guard }], guard := some (3, true) }) (v := ?_) rfl (by kernel_rfl) (by kernel_rfl) (by kernel_rfl) (fun _ _ _ h => h) (Or.inl ⟨by rfl, ?_⟩) hS0 ?_
      rotate_left
      · intro W hSw
        obtain ⟨c0, c1, c2⟩ := (unhide PA).below (unhide LA) hSw
        obtain ⟨d0, d1, d2⟩ := (unhide PB).below (unhide LB) hSw
        dsimp only [Nat.zero_add] at c0 c1 c2 d0 d1 d2
        go_simp
        try with_reducible rfl
      simp only [Act.put, List.setIfInBounds_toArray, List.set_cons_zero, List.set_cons_succ]
      refine wpAnyH_take (i := 9) (oi := { dst := some 26, op := Op.indexAddr 25 (Operand.tmp 22) (Operand.tmp 25), type := 0, pos := "l06_board.go:179", after := #[{ on := 5, ground := Ground.data }, { on := 8, ground := Ground.data }, { on := 3, ground := Ground.guard }], guard := some (3, true) }) (v := ?_) rfl (by kernel_rfl) (by kernel_rfl) (by kernel_rfl) (fun _ _ _ h => h) (Or.inl ⟨by rfl, ?_⟩) hS0 ?_
      rotate_left
      · intro W hSw
        obtain ⟨c0, c1, c2⟩ := (unhide PA).below (unhide LA) hSw
        obtain ⟨d0, d1, d2⟩ := (unhide PB).below (unhide LB) hSw
        dsimp only [Nat.zero_add] at c0 c1 c2 d0 d1 d2
        go_simp
        try with_reducible rfl
      simp only [Act.put, List.setIfInBounds_toArray, List.set_cons_zero, List.set_cons_succ]
      refine wpAnyH_take (i := 10) (oi := { dst := some 27, op := Op.load 34 (Operand.tmp 26), type := 34, pos := "l06_board.go:179", after := #[{ on := 9, ground := Ground.data }, { on := 3, ground := Ground.guard }], guard := some (3, true) }) (v := ?_) rfl (by kernel_rfl) (by kernel_rfl) (by kernel_rfl) (fun _ _ _ h => h) (Or.inl ⟨by rfl, ?_⟩) hS0 ?_
      rotate_left
      · intro W hSw
        obtain ⟨c0, c1, c2⟩ := (unhide PA).below (unhide LA) hSw
        obtain ⟨d0, d1, d2⟩ := (unhide PB).below (unhide LB) hSw
        dsimp only [Nat.zero_add] at c0 c1 c2 d0 d1 d2
        go_simp
        try with_reducible rfl
      simp only [Act.put, List.setIfInBounds_toArray, List.set_cons_zero, List.set_cons_succ]
      refine wpAnyH_one (i := 11) (by kernel_rfl) ?_
      refine wpOp_step (o := { dst := some 28, op := Op.call { callee := Callee.value (Operand.func 22), args := #[Operand.tmp 21, Operand.tmp 27], argTypes := #[34, 34] }, type := 4, pos := "l06_board.go:179", after := #[{ on := 4, ground := Ground.data }, { on := 10, ground := Ground.data }, { on := 3, ground := Ground.chain }, { on := 3, ground := Ground.guard }], guard := some (3, true) }) rfl fun K' hK => step_enterW (by rfl) 22 #[postV (r, l, t), postV (r', l', t')] (by go_simp) ((unhide L22 _).mono ?_)
      rintro e w6 ⟨rfl, b1⟩
      have s1 := bl_st b1 hS0
      clear b1
      refine ⟨_, rfl, hK _ _ ⟨s1, ?_⟩⟩
      simp only [Act.put, List.setIfInBounds_toArray, List.set_cons_zero, List.set_cons_succ]
      refine wpAnyH_take (i := 12) (oi := { dst := some 29, op := Op.unOp UnOp.not 4 (Operand.tmp 28), type := 4, pos := "l06_board.go:179", after := #[{ on := 11, ground := Ground.data }, { on := 3, ground := Ground.guard }], guard := some (3, true) }) (v := ?_) rfl (by kernel_rfl) (by kernel_rfl) (by kernel_rfl) (fun _ _ _ h => h) (Or.inl ⟨by rfl, ?_⟩) s1 ?_
      rotate_left
      · intro W hSw
        go_simp
        try with_reducible rfl
      simp only [Act.put, List.setIfInBounds_toArray, List.set_cons_zero, List.set_cons_succ]
      refine wpAnyH_take (i := 13) (oi := { dst := some 30, op := Op.pick (Operand.tmp 20) (Operand.tmp 29) (Operand.const (Value.bool false)), type := 4, pos := "l06_board.go:179", after := #[{ on := 3, ground := Ground.data }, { on := 12, ground := Ground.data }], guard := none }) (v := ?_) rfl (by kernel_rfl) (by kernel_rfl) (by kernel_rfl) (fun _ _ _ h => h) (Or.inl ⟨by rfl, ?_⟩) s1 ?_
      rotate_left
      · intro W hSw
        go_simp
        try with_reducible rfl
      simp only [Act.put, List.setIfInBounds_toArray, List.set_cons_zero, List.set_cons_succ]
      refine wpAnyH_done (by kernel_rfl) ?_ _
      have B6 := hide (bl_st s1 (unhide B5))
      have V6 := hide ((unhide V5).below s1)
      have P6 := hide ((unhide PA).below (unhide LA) s1)
      have L6 := hide (Nat.lt_of_lt_of_le (unhide LA) s1.size)
      clear s1 hS0
      have z2 := unhide Z2
      go_wp2
      go_ret2
      exact ⟨_, by rw [unhide HR]; rfl, by rw [unhide HR]; exact .inl ⟨rfl, rfl⟩, unhide B6⟩
    · have HR := hide (aR_f (unhide HL) (unhide HB) (unhide HK) (.inr (by rw [unhide HQ]; exact hlt)) h6)
      have z2 : ¬ ((ps.length : Int) = 64) := by omega
      clear hlt h6
      go_wp2
      refine wp_region_held (S := fun W' => Below w5.heap.size w5 W') (by kernel_rfl) ?_
      have hS0 : Below w5.heap.size w5 { w5 with drawn := w5.drawn + 1 } := below_drewN (Below.refl _ _) 1
      refine wpAnyH_take (i := 0) (oi := { dst := some 17, op := Op.move (Operand.tmp 0), type := 25, pos := "l06_board.go:179", after := #[], guard := none }) (v := ?_) rfl (by kernel_rfl) (by kernel_rfl) (by kernel_rfl) (fun _ _ _ h => h) (Or.inl ⟨by rfl, ?_⟩) hS0 ?_
      rotate_left
      · intro W hSw
        obtain ⟨c0, c1, c2⟩ := (unhide PA).below (unhide LA) hSw
        obtain ⟨d0, d1, d2⟩ := (unhide PB).below (unhide LB) hSw
        dsimp only [Nat.zero_add] at c0 c1 c2 d0 d1 d2
        go_simp
        try with_reducible rfl
      simp only [Act.put, List.setIfInBounds_toArray, List.set_cons_zero, List.set_cons_succ]
      refine wpAnyH_take (i := 1) (oi := { dst := some 18, op := Op.call { callee := Callee.builtin Builtin.len, args := #[Operand.tmp 17], argTypes := #[25] }, type := 3, pos := "l06_board.go:179", after := #[{ on := 0, ground := Ground.data }], guard := none }) (v := ?_) rfl (by kernel_rfl) (by kernel_rfl) (by kernel_rfl) (fun _ _ _ h => h) (Or.inl ⟨by rfl, ?_⟩) hS0 ?_
      rotate_left
      · intro W hSw
        obtain ⟨c0, c1, c2⟩ := (unhide PA).below (unhide LA) hSw
        obtain ⟨d0, d1, d2⟩ := (unhide PB).below (unhide LB) hSw
        dsimp only [Nat.zero_add] at c0 c1 c2 d0 d1 d2
        go_simp
        try with_reducible rfl
      simp only [Act.put, List.setIfInBounds_toArray, List.set_cons_zero, List.set_cons_succ]
      refine wpAnyH_take (i := 2) (oi := { dst := some 19, op := Op.binOp BinOp.gtr 3 (Operand.tmp 18) (Operand.const (Value.int IntKind.i64 0)) 3, type := 4, pos := "l06_board.go:179", after := #[{ on := 1, ground := Ground.data }], guard := none }) (v := ?_) rfl (by kernel_rfl) (by kernel_rfl) (by kernel_rfl) (fun _ _ _ h => h) (Or.inl ⟨by rfl, ?_⟩) hS0 ?_
      rotate_left
      · intro W hSw
        obtain ⟨c0, c1, c2⟩ := (unhide PA).below (unhide LA) hSw
        obtain ⟨d0, d1, d2⟩ := (unhide PB).below (unhide LB) hSw
        dsimp only [Nat.zero_add] at c0 c1 c2 d0 d1 d2
        go_simp
        try with_reducible rfl
      simp only [Act.put, List.setIfInBounds_toArray, List.set_cons_zero, List.set_cons_succ]
      refine wpAnyH_take (i := 3) (oi := { dst := some 20, op := Op.move (Operand.tmp 19), type := 4, pos := "l06_board.go:179", after := #[{ on := 2, ground := Ground.data }], guard := none }) (v := ?_) rfl (by kernel_rfl) (by kernel_rfl) (by kernel_rfl) (fun _ _ _ h => h) (Or.inl ⟨by rfl, ?_⟩) hS0 ?_
      rotate_left
      · intro W hSw
        obtain ⟨c0, c1, c2⟩ := (unhide PA).below (unhide LA) hSw
        obtain ⟨d0, d1, d2⟩ := (unhide PB).below (unhide LB) hSw
        dsimp only [Nat.zero_add] at c0 c1 c2 d0 d1 d2
        go_simp
        try with_reducible rfl
      simp only [Act.put, List.setIfInBounds_toArray, List.set_cons_zero, List.set_cons_succ]
      try simp only [z]
      refine wpAnyH_take (i := 4) (oi := { dst := some 21, op := Op.load 34 (Operand.tmp 3), type := 34, pos := "l06_board.go:179", after := #[{ on := 3, ground := Ground.guard }], guard := some (3, true) }) (v := ?_) rfl (by kernel_rfl) (by kernel_rfl) (by kernel_rfl) (fun _ _ _ h => h) (Or.inl ⟨by rfl, ?_⟩) hS0 ?_
      rotate_left
      · intro W hSw
        obtain ⟨c0, c1, c2⟩ := (unhide PA).below (unhide LA) hSw
        obtain ⟨d0, d1, d2⟩ := (unhide PB).below (unhide LB) hSw
        dsimp only [Nat.zero_add] at c0 c1 c2 d0 d1 d2
        go_simp
        try with_reducible rfl
      simp only [Act.put, List.setIfInBounds_toArray, List.set_cons_zero, List.set_cons_succ]
      refine wpAnyH_take (i := 5) (oi := { dst := some 22, op := Op.move (Operand.tmp 0), type := 25, pos := "l06_board.go:179", after := #[{ on := 3, ground := Ground.guard }], guard := some (3, true) }) (v := ?_) rfl (by kernel_rfl) (by kernel_rfl) (by kernel_rfl) (fun _ _ _ h => h) (Or.inl ⟨by rfl, ?_⟩) hS0 ?_
      rotate_left
      · intro W hSw
        obtain ⟨c0, c1, c2⟩ := (unhide PA).below (unhide LA) hSw
        obtain ⟨d0, d1, d2⟩ := (unhide PB).below (unhide LB) hSw
        dsimp only [Nat.zero_add] at c0 c1 c2 d0 d1 d2
        go_simp
        try with_reducible rfl
      simp only [Act.put, List.setIfInBounds_toArray, List.set_cons_zero, List.set_cons_succ]
      refine wpAnyH_take (i := 6) (oi := { dst := some 23, op := Op.move (Operand.tmp 0), type := 25, pos := "l06_board.go:179", after := #[{ on := 3, ground := Ground.guard }], guard := some (3, true) }) (v := ?_) rfl (by kernel_rfl) (by kernel_rfl) (by kernel_rfl) (fun _ _ _ h => h) (Or.inl ⟨by rfl, ?_⟩) hS0 ?_
      rotate_left
      · intro W hSw
        obtain ⟨c0, c1, c2⟩ := (unhide PA).below (unhide LA) hSw
        obtain ⟨d0, d1, d2⟩ := (unhide PB).below (unhide LB) hSw
        dsimp only [Nat.zero_add] at c0 c1 c2 d0 d1 d2
        go_simp
        try with_reducible rfl
      simp only [Act.put, List.setIfInBounds_toArray, List.set_cons_zero, List.set_cons_succ]
      refine wpAnyH_take (i := 7) (oi := { dst := some 24, op := Op.call { callee := Callee.builtin Builtin.len, args := #[Operand.tmp 23], argTypes := #[25] }, type := 3, pos := "l06_board.go:179", after := #[{ on := 6, ground := Ground.data }, { on := 3, ground := Ground.guard }], guard := some (3, true) }) (v := ?_) rfl (by kernel_rfl) (by kernel_rfl) (by kernel_rfl) (fun _ _ _ h => h) (Or.inl ⟨by rfl, ?_⟩) hS0 ?_
      rotate_left
      · intro W hSw
        obtain ⟨c0, c1, c2⟩ := (unhide PA).below (unhide LA) hSw
        obtain ⟨d0, d1, d2⟩ := (unhide PB).below (unhide LB) hSw
        dsimp only [Nat.zero_add] at c0 c1 c2 d0 d1 d2
        go_simp
        try with_reducible rfl
      simp only [Act.put, List.setIfInBounds_toArray, List.set_cons_zero, List.set_cons_succ]
      refine wpAnyH_take (i := 8) (oi := { dst := some 25, op := Op.binOp BinOp.sub 3 (Operand.tmp 24) (Operand.const (Value.int IntKind.i64 1)) 3, type := 3, pos := "l06_board.go:179", after := #[{ on := 7, ground := Ground.data }, { on := 3, ground := Ground.guard }], guard := some (3, true) }) (v := ?_) rfl (by kernel_rfl) (by kernel_rfl) (by kernel_rfl) (fun _ _ _ h => h) (Or.inl ⟨by rfl, ?_⟩) hS0 ?_
      rotate_left
      · intro W hSw
        obtain ⟨c0, c1, c2⟩ := (unhide PA).below (unhide LA) hSw
        obtain ⟨d0, d1, d2⟩ := (unhide PB).below (unhide LB) hSw
        dsimp only [Nat.zero_add] at c0 c1 c2 d0 d1 d2
        go_simp
        try with_reducible rfl
      simp only [Act.put, List.setIfInBounds_toArray, List.set_cons_zero, List.set_cons_succ]
      refine wpAnyH_take (i := 9) (oi := { dst := some 26, op := Op.indexAddr 25 (Operand.tmp 22) (Operand.tmp 25), type := 0, pos := "l06_board.go:179", after := #[{ on := 5, ground := Ground.data }, { on := 8, ground := Ground.data }, { on := 3, ground := Ground.guard }], guard := some (3, true) }) (v := ?_) rfl (by kernel_rfl) (by kernel_rfl) (by kernel_rfl) (fun _ _ _ h => h) (Or.inl ⟨by rfl, ?_⟩) hS0 ?_
      rotate_left
      · intro W hSw
        obtain ⟨c0, c1, c2⟩ := (unhide PA).below (unhide LA) hSw
        obtain ⟨d0, d1, d2⟩ := (unhide PB).below (unhide LB) hSw
        dsimp only [Nat.zero_add] at c0 c1 c2 d0 d1 d2
        go_simp
        try with_reducible rfl
      simp only [Act.put, List.setIfInBounds_toArray, List.set_cons_zero, List.set_cons_succ]
      refine wpAnyH_take (i := 10) (oi := { dst := some 27, op := Op.load 34 (Operand.tmp 26), type := 34, pos := "l06_board.go:179", after := #[{ on := 9, ground := Ground.data }, { on := 3, ground := Ground.guard }], guard := some (3, true) }) (v := ?_) rfl (by kernel_rfl) (by kernel_rfl) (by kernel_rfl) (fun _ _ _ h => h) (Or.inl ⟨by rfl, ?_⟩) hS0 ?_
      rotate_left
      · intro W hSw
        obtain ⟨c0, c1, c2⟩ := (unhide PA).below (unhide LA) hSw
        obtain ⟨d0, d1, d2⟩ := (unhide PB).below (unhide LB) hSw
        dsimp only [Nat.zero_add] at c0 c1 c2 d0 d1 d2
        go_simp
        try with_reducible rfl
      simp only [Act.put, List.setIfInBounds_toArray, List.set_cons_zero, List.set_cons_succ]
      refine wpAnyH_one (i := 11) (by kernel_rfl) ?_
      refine wpOp_step (o := { dst := some 28, op := Op.call { callee := Callee.value (Operand.func 22), args := #[Operand.tmp 21, Operand.tmp 27], argTypes := #[34, 34] }, type := 4, pos := "l06_board.go:179", after := #[{ on := 4, ground := Ground.data }, { on := 10, ground := Ground.data }, { on := 3, ground := Ground.chain }, { on := 3, ground := Ground.guard }], guard := some (3, true) }) rfl fun K' hK => step_enterW (by rfl) 22 #[postV (r, l, t), postV (r', l', t')] (by go_simp) ((unhide L22 _).mono ?_)
      rintro e w6 ⟨rfl, b1⟩
      have s1 := bl_st b1 hS0
      clear b1
      refine ⟨_, rfl, hK _ _ ⟨s1, ?_⟩⟩
      simp only [Act.put, List.setIfInBounds_toArray, List.set_cons_zero, List.set_cons_succ]
      refine wpAnyH_take (i := 12) (oi := { dst := some 29, op := Op.unOp UnOp.not 4 (Operand.tmp 28), type := 4, pos := "l06_board.go:179", after := #[{ on := 11, ground := Ground.data }, { on := 3, ground := Ground.guard }], guard := some (3, true) }) (v := ?_) rfl (by kernel_rfl) (by kernel_rfl) (by kernel_rfl) (fun _ _ _ h => h) (Or.inl ⟨by rfl, ?_⟩) s1 ?_
      rotate_left
      · intro W hSw
        go_simp
        try with_reducible rfl
      simp only [Act.put, List.setIfInBounds_toArray, List.set_cons_zero, List.set_cons_succ]
      refine wpAnyH_take (i := 13) (oi := { dst := some 30, op := Op.pick (Operand.tmp 20) (Operand.tmp 29) (Operand.const (Value.bool false)), type := 4, pos := "l06_board.go:179", after := #[{ on := 3, ground := Ground.data }, { on := 12, ground := Ground.data }], guard := none }) (v := ?_) rfl (by kernel_rfl) (by kernel_rfl) (by kernel_rfl) (fun _ _ _ h => h) (Or.inl ⟨by rfl, ?_⟩) s1 ?_
      rotate_left
      · intro W hSw
        go_simp
        try with_reducible rfl
      simp only [Act.put, List.setIfInBounds_toArray, List.set_cons_zero, List.set_cons_succ]
      refine wpAnyH_done (by kernel_rfl) ?_ _
      have B6 := hide (bl_st s1 (unhide B5))
      have V6 := hide ((unhide V5).below s1)
      have P6 := hide ((unhide PA).below (unhide LA) s1)
      have L6 := hide (Nat.lt_of_lt_of_le (unhide LA) s1.size)
      clear s1 hS0
      clear PA LA V5 B5 PB LB wk k0 kl
      obtain ⟨c0, c1, c2⟩ := unhide P6
      dsimp only [Nat.zero_add] at c0 c1 c2
      go_wp2_with fail
      have b7 : Below w6.heap.size w6 (w6.alloc (.cells #[.int .i64 r, .int .i64 l, .string t] 34)) := bl_al (Below.refl _ _)
      have U7 := posts_one (heap_at w6 (.cells #[.int .i64 r, .int .i64 l, .string t] 34) _ rfl)
      have V7 := (unhide V6).below b7
      have B7 := bl_st b7 (unhide B6)
      have E7 : (w6.alloc (.cells #[.int .i64 r, .int .i64 l, .string t] 34)).heap.size = w6.heap.size + 1 := by simp
      generalize w6.alloc (.cells #[.int .i64 r, .int .i64 l, .string t] 34) = w7 at *
      have b8 : Below w7.heap.size w7 (w7.alloc (.cells #[.slice (some ⟨b, off, none⟩) ps.length cap, .slice (some ⟨w6.heap.size, 0, none⟩) 1 1] 25)) := bl_al (Below.refl _ _)
      have N8 := heap_at w7 (.cells #[.slice (some ⟨b, off, none⟩) ps.length cap, .slice (some ⟨w6.heap.size, 0, none⟩) 1 1] 25) _ rfl
      have U8 := U7.below b8
      have V8 := V7.below b8
      have B8 := bl_st b8 B7
      rw [E7] at N8
      generalize w7.alloc (.cells #[.slice (some ⟨b, off, none⟩) ps.length cap, .slice (some ⟨w6.heap.size, 0, none⟩) 1 1] 25) = w8 at *
      have S8 := hide B8.size
      refine (cat25 _ _ _ ps [(r, l, t)] w8 N8 V8 U8 (by simp) (by have := unhide HL; simp; omega)).mono ?_
      rintro e w9 ⟨g, c, rfl, o9, b9⟩
      obtain ⟨g', cap9, rest, eg, hgb, hgl, hcap, hlen, hob⟩ := own_row o9 ⟨_, _, rfl⟩
      simp only [Value.slice.injEq, Option.some.injEq, Addr.mk.injEq, and_true, true_and] at eg
      obtain ⟨rfl, rfl⟩ := eg
      rw [List.length_singleton] at *
      have B9 := hide (bl_st b9 B8)
      have HOB := hide hob
      have HCP := hide hcap
      have HGB := hide (Nat.le_trans (unhide S8) hgb)
      have HGL := hide hgl
      have HSZ := hide (sizes32 (unhide HB) (unhide HK))
      have n3 : (0 : Int) ≤ (ps.length : Int) + 1 := by omega
      clear b7 U7 V7 B7 E7 b8 N8 U8 V8 B8 S8 o9 b9 hgb hgl hcap hlen hob c0 c1 c2 P6 L6 V6 B6
      go_wp2
      go_loopw [41] (fun i wr => ∃ j : Nat, j ≤ ps.length + 1 ∧ i = .int .i64 j ∧ wr.heap[g]? = some (pstO (ps ++ [(r, l, t)]) rest) ∧ g < wr.heap.size ∧ Below w.heap.size w wr) (fun i _ => ps.length + 1 - (intOf i).toNat)
      case atStart => exact ⟨0, by omega, rfl, unhide HOB, unhide HGL, unhide B9⟩
      case round =>
        obtain ⟨j, hj, rfl, ho, hgl, hbl⟩ := hrel
        by_cases hlt : j < ps.length + 1
        · have q1 : (j : Int) < (ps.length : Int) + 1 := by omega
          have q0 : (0 : Int) ≤ (j : Int) := by omega
          have hll : j < (ps ++ [(r, l, t)]).length := by simpa using hlt
          have pc := cell_pstO ho j hll
          have hsz := unhide HSZ j hll
          have HS2 := hide (flat_set2 (ps ++ [(r, l, t)]) j rest ((ps ++ [(r, l, t)]).getD j noP).2.2 hll)
          rw [show (ps ++ [(r, l, t)]).set j (((ps ++ [(r, l, t)]).getD j noP).1, ((ps ++ [(r, l, t)]).getD j noP).2.1, ((ps ++ [(r, l, t)]).getD j noP).2.2) = ps ++ [(r, l, t)] from set_same hll] at HS2
          have HJ := hide hlt
          have HO := hide ho
          have HG := hide hgl
          have HBL := hide hbl
          clear ho hgl hbl hlt hj hll
          generalize (ps ++ [(r, l, t)]).getD j noP = m at *
          obtain ⟨m0, m1, m2⟩ := m
          obtain ⟨c0, c1, c2⟩ := pc
          dsimp only at c0 c1 c2 hsz HS2
          have H26 := hide (clone26 m2 wr (by omega) (by omega))
          clear hsz
          go_wp2_with fail
          refine (unhide H26).mono ?_
          rintro e wa ⟨rfl, ba⟩
          have ho := (ba.block g (unhide HG)).trans (unhide HO)
          have y2 := free_pstO ho (j * 3 + 2)
          have d2 := (cell_below ba (unhide HG)).trans c2
          have P3 := hide (set_pstO ho (unhide HS2))
          have B3 := hide (bl_set (q := g) (i := j * 3 + 2) (v := .string m2) (bl_st ba (unhide HBL)) (unhide HGB))
          have G3 := hide (show g < (wa.setCell ⟨g, j * 3 + 2, none⟩ (.string m2)).heap.size by rw [size_set]; exact Nat.lt_of_lt_of_le (unhide HG) ba.size)
          clear ho ba c0 c1 c2 H26 HS2
          go_wp2
          go_roundw
          case rel => exact ⟨j + 1, unhide HJ, by go_num, unhide P3, unhide G3, unhide B3⟩
          case measure => have := unhide HJ; simp [intOf]; omega
        · obtain rfl : j = ps.length + 1 := by omega
          have HO := hide ho
          have HG := hide hgl
          have HBL := hide hbl
          clear ho hgl hbl hlt
          go_wp2
          go_ret2
          exact ⟨_, by rw [unhide HR]; rfl, by rw [unhide HR]; exact .inr ⟨g, c, rest, by simp, unhide HGB, unhide HG, unhide HO, by simpa using unhide HCP⟩, unhide HBL⟩
end Go.Proofs.Ytgjkflhpnppkbaa
