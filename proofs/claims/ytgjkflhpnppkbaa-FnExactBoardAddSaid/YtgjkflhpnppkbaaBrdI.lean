/- Right boards, as the program finds them. -/
import Derived.Test.YtgjkflhpnppkbaaBrd
namespace Go.Proofs.Ytgjkflhpnppkbaa
open Go.RowKit
set_option maxHeartbeats 4000000
set_option maxRecDepth 20000
theorem bo9 (v : Value) (ps : List Pst) (w : World) (hv : postsV w v ps) (hl : ps.length ≤ 2097152) :
    Calls Try.prog 9 #[v] w fun e w' => e = .returned (.bool (bOK ps)) ∧ Below w.heap.size w w' := by
  obtain ⟨A, cap, rfl, hc⟩ := hv
  have HC := hide hc
  have n0 : (0 : Int) ≤ (ps.length : Int) := by omega
  have n1 : (ps.length : Int) ≤ 2097152 := by omega
  clear hc
  by_cases h64 : 64 < ps.length
  · have q : (64 : Int) < (ps.length : Int) := by omega
    rw [bOK_long h64]
    clear h64 HC
    go_enter Try.func9, Try.ntmps9
    go_wp2
    go_ret
    exact ⟨rfl, Below.refl _ _⟩
  have q : (ps.length : Int) ≤ 64 := by omega
  have H64 := hide (show ps.length ≤ 64 by omega)
  clear h64 hl
  go_enter Try.func9, Try.ntmps9
  go_wp2
  go_loopw [10] (fun i wr => ∃ j : Nat, j ≤ ps.length ∧ i = .int .i64 j ∧ (∀ i, i < j → stepOK ps i = true) ∧ Below w.heap.size w wr) (fun i _ => ps.length - (intOf i).toNat)
  case atStart => exact ⟨0, by omega, rfl, fun _ h => absurd h (Nat.not_lt_zero _), Below.refl _ _⟩
  case round =>
    obtain ⟨j, hj, rfl, hgood, hbl⟩ := hrel
    have HGD := hide hgood
    have HBL := hide hbl
    clear hgood hbl
    by_cases hlt : j < ps.length
    · obtain ⟨b, off, hA, hbb, hcell⟩ := unhide HC (by omega)
      subst hA
      have q1 : (j : Int) < (ps.length : Int) := by omega
      have q0 : (0 : Int) ≤ (j : Int) := by omega
      have HCL := hide hcell
      have LB := hide (Nat.lt_of_lt_of_le hbb (unhide HBL).size)
      have pc := (hcell j hlt).below hbb (unhide HBL)
      have HJ := hide hlt
      have HBB := hide hbb
      clear hcell hlt hj hbb
      generalize hp : ps.getD j noP = p at *
      obtain ⟨r, l, t⟩ := p
      have HP := hide hp
      clear hp
      obtain ⟨c0, c1, c2⟩ := pc
      dsimp only at c0 c1 c2
      have HB2 := hide (show Below w.heap.size w (wr.alloc (.cells #[.int .i64 r, .int .i64 l, .string t] 34)) from bl_al (unhide HBL))
      have PA := hide (pc_new wr r l t 34)
      have LA := hide (show wr.heap.size < (wr.alloc (.cells #[.int .i64 r, .int .i64 l, .string t] 34)).heap.size by simp)
      have K21 := hide (fun W => pok21 r l t W)
      generalize hb1 : okP (r, l, t) = b1 at *
      cases b1
      · have HE := hide (bOK_no (unhide HJ) (stepOK_bad (unhide HP) hb1))
        clear hb1
        go_wp2
        clear c0 c1 c2
        generalize wr.alloc (.cells #[.int .i64 r, .int .i64 l, .string t] 34) = w2 at *
        refine wp_region_held (S := fun W' => Below w2.heap.size w2 W') (by kernel_rfl) ?_
        have hS0 : Below w2.heap.size w2 { w2 with drawn := w2.drawn + 1 } := below_drewN (Below.refl _ _) 1
        refine wpAnyH_take (i := 0) (oi := { dst := some 15, op := Op.load 34 (Operand.tmp 4), type := 34, pos := "l06_board.go:155", after := #[], guard := none }) (v := ?_) rfl (by kernel_rfl) (by kernel_rfl) (by kernel_rfl) (fun _ _ _ h => h) (Or.inl ⟨by rfl, ?_⟩) hS0 ?_
        rotate_left
        · intro W hSw
          obtain ⟨c0, c1, c2⟩ := (unhide PA).below (unhide LA) hSw
          dsimp only [Nat.zero_add] at c0 c1 c2
          go_simp
          try with_reducible rfl
        simp only [Act.put, List.setIfInBounds_toArray, List.set_cons_zero, List.set_cons_succ]
        refine wpAnyH_one (i := 1) (by kernel_rfl) ?_
        refine wpOp_step (o := { dst := some 16, op := Op.call { callee := Callee.value (Operand.func 21), args := #[Operand.tmp 15], argTypes := #[34] }, type := 4, pos := "l06_board.go:155", after := #[{ on := 0, ground := Ground.data }], guard := none }) rfl fun K' hK => step_enterW (by rfl) 21 #[postV (r, l, t)] (by go_simp) ((unhide K21 _).mono ?_)
        rintro e w3 ⟨rfl, b1⟩
        have s1 := bl_st b1 hS0
        clear b1
        refine ⟨_, rfl, hK _ _ ⟨s1, ?_⟩⟩
        simp only [Act.put, List.setIfInBounds_toArray, List.set_cons_zero, List.set_cons_succ]
        refine wpAnyH_take (i := 2) (oi := { dst := some 17, op := Op.unOp UnOp.not 4 (Operand.tmp 16), type := 4, pos := "l06_board.go:155", after := #[{ on := 1, ground := Ground.data }], guard := none }) (v := ?_) rfl (by kernel_rfl) (by kernel_rfl) (by kernel_rfl) (fun _ _ _ h => h) (Or.inl ⟨by rfl, ?_⟩) s1 ?_
        rotate_left
        · intro W hSw
          go_simp
          try with_reducible rfl
        simp only [Act.put, List.setIfInBounds_toArray, List.set_cons_zero, List.set_cons_succ]
        refine wpAnyH_take (i := 3) (oi := { dst := some 18, op := Op.move (Operand.tmp 17), type := 4, pos := "l06_board.go:155", after := #[{ on := 2, ground := Ground.data }, { on := 1, ground := Ground.chain }], guard := none }) (v := ?_) rfl (by kernel_rfl) (by kernel_rfl) (by kernel_rfl) (fun _ _ _ h => h) (Or.inl ⟨by rfl, ?_⟩) s1 ?_
        rotate_left
        · intro W hSw
          go_simp
          try with_reducible rfl
        simp only [Act.put, List.setIfInBounds_toArray, List.set_cons_zero, List.set_cons_succ]
        refine wpAnyH_take (i := 4) (oi := { dst := some 19, op := Op.move (Operand.tmp 3), type := 3, pos := "l06_board.go:155", after := #[{ on := 3, ground := Ground.guard }], guard := some (3, false) }) (v := undef) rfl (by kernel_rfl) (by kernel_rfl) (by kernel_rfl) (fun _ _ _ h => h) (Or.inr ⟨by rfl, rfl⟩) s1 ?_
        simp only [Act.put, List.setIfInBounds_toArray, List.set_cons_zero, List.set_cons_succ]
        refine wpAnyH_take (i := 5) (oi := { dst := some 20, op := Op.binOp BinOp.gtr 3 (Operand.tmp 19) (Operand.const (Value.int IntKind.i64 0)) 3, type := 4, pos := "l06_board.go:155", after := #[{ on := 4, ground := Ground.data }, { on := 3, ground := Ground.guard }], guard := some (3, false) }) (v := undef) rfl (by kernel_rfl) (by kernel_rfl) (by kernel_rfl) (fun _ _ _ h => h) (Or.inr ⟨by rfl, rfl⟩) s1 ?_
        simp only [Act.put, List.setIfInBounds_toArray, List.set_cons_zero, List.set_cons_succ]
        refine wpAnyH_take (i := 6) (oi := { dst := some 21, op := Op.move (Operand.tmp 20), type := 4, pos := "l06_board.go:155", after := #[{ on := 5, ground := Ground.data }, { on := 3, ground := Ground.chain }, { on := 3, ground := Ground.guard }], guard := some (3, false) }) (v := undef) rfl (by kernel_rfl) (by kernel_rfl) (by kernel_rfl) (fun _ _ _ h => h) (Or.inr ⟨by rfl, rfl⟩) s1 ?_
        simp only [Act.put, List.setIfInBounds_toArray, List.set_cons_zero, List.set_cons_succ]
        refine wpAnyH_take (i := 7) (oi := { dst := some 22, op := Op.load 34 (Operand.tmp 4), type := 34, pos := "l06_board.go:155", after := #[{ on := 6, ground := Ground.guard }], guard := some (6, true) }) (v := undef) rfl (by kernel_rfl) (by kernel_rfl) (by kernel_rfl) (fun _ _ _ h => h) (Or.inr ⟨by rfl, rfl⟩) s1 ?_
        simp only [Act.put, List.setIfInBounds_toArray, List.set_cons_zero, List.set_cons_succ]
        refine wpAnyH_take (i := 8) (oi := { dst := some 23, op := Op.move (Operand.tmp 0), type := 25, pos := "l06_board.go:155", after := #[{ on := 6, ground := Ground.guard }], guard := some (6, true) }) (v := undef) rfl (by kernel_rfl) (by kernel_rfl) (by kernel_rfl) (fun _ _ _ h => h) (Or.inr ⟨by rfl, rfl⟩) s1 ?_
        simp only [Act.put, List.setIfInBounds_toArray, List.set_cons_zero, List.set_cons_succ]
        refine wpAnyH_take (i := 9) (oi := { dst := some 24, op := Op.move (Operand.tmp 3), type := 3, pos := "l06_board.go:155", after := #[{ on := 6, ground := Ground.guard }], guard := some (6, true) }) (v := undef) rfl (by kernel_rfl) (by kernel_rfl) (by kernel_rfl) (fun _ _ _ h => h) (Or.inr ⟨by rfl, rfl⟩) s1 ?_
        simp only [Act.put, List.setIfInBounds_toArray, List.set_cons_zero, List.set_cons_succ]
        refine wpAnyH_take (i := 10) (oi := { dst := some 25, op := Op.binOp BinOp.sub 3 (Operand.tmp 24) (Operand.const (Value.int IntKind.i64 1)) 3, type := 3, pos := "l06_board.go:155", after := #[{ on := 9, ground := Ground.data }, { on := 6, ground := Ground.guard }], guard := some (6, true) }) (v := undef) rfl (by kernel_rfl) (by kernel_rfl) (by kernel_rfl) (fun _ _ _ h => h) (Or.inr ⟨by rfl, rfl⟩) s1 ?_
        simp only [Act.put, List.setIfInBounds_toArray, List.set_cons_zero, List.set_cons_succ]
        refine wpAnyH_take (i := 11) (oi := { dst := some 26, op := Op.indexAddr 25 (Operand.tmp 23) (Operand.tmp 25), type := 0, pos := "l06_board.go:155", after := #[{ on := 8, ground := Ground.data }, { on := 10, ground := Ground.data }, { on := 6, ground := Ground.guard }], guard := some (6, true) }) (v := undef) rfl (by kernel_rfl) (by kernel_rfl) (by kernel_rfl) (fun _ _ _ h => h) (Or.inr ⟨by rfl, rfl⟩) s1 ?_
        simp only [Act.put, List.setIfInBounds_toArray, List.set_cons_zero, List.set_cons_succ]
        refine wpAnyH_take (i := 12) (oi := { dst := some 27, op := Op.load 34 (Operand.tmp 26), type := 34, pos := "l06_board.go:155", after := #[{ on := 11, ground := Ground.data }, { on := 6, ground := Ground.guard }], guard := some (6, true) }) (v := undef) rfl (by kernel_rfl) (by kernel_rfl) (by kernel_rfl) (fun _ _ _ h => h) (Or.inr ⟨by rfl, rfl⟩) s1 ?_
        simp only [Act.put, List.setIfInBounds_toArray, List.set_cons_zero, List.set_cons_succ]
        refine wpAnyH_take (i := 13) (oi := { dst := some 28, op := Op.call { callee := Callee.value (Operand.func 22), args := #[Operand.tmp 22, Operand.tmp 27], argTypes := #[34, 34] }, type := 4, pos := "l06_board.go:155", after := #[{ on := 7, ground := Ground.data }, { on := 12, ground := Ground.data }, { on := 6, ground := Ground.chain }, { on := 6, ground := Ground.guard }], guard := some (6, true) }) (v := undef) rfl (by kernel_rfl) (by kernel_rfl) (by kernel_rfl) (fun _ _ _ h => h) (Or.inr ⟨by rfl, rfl⟩) s1 ?_
        simp only [Act.put, List.setIfInBounds_toArray, List.set_cons_zero, List.set_cons_succ]
        refine wpAnyH_take (i := 14) (oi := { dst := some 29, op := Op.unOp UnOp.not 4 (Operand.tmp 28), type := 4, pos := "l06_board.go:155", after := #[{ on := 13, ground := Ground.data }, { on := 6, ground := Ground.guard }], guard := some (6, true) }) (v := undef) rfl (by kernel_rfl) (by kernel_rfl) (by kernel_rfl) (fun _ _ _ h => h) (Or.inr ⟨by rfl, rfl⟩) s1 ?_
        simp only [Act.put, List.setIfInBounds_toArray, List.set_cons_zero, List.set_cons_succ]
        refine wpAnyH_take (i := 15) (oi := { dst := some 30, op := Op.pick (Operand.tmp 21) (Operand.tmp 29) (Operand.const (Value.bool false)), type := 4, pos := "l06_board.go:155", after := #[{ on := 6, ground := Ground.data }, { on := 14, ground := Ground.data }, { on := 3, ground := Ground.guard }], guard := some (3, false) }) (v := undef) rfl (by kernel_rfl) (by kernel_rfl) (by kernel_rfl) (fun _ _ _ h => h) (Or.inr ⟨by rfl, rfl⟩) s1 ?_
        simp only [Act.put, List.setIfInBounds_toArray, List.set_cons_zero, List.set_cons_succ]
        refine wpAnyH_take (i := 16) (oi := { dst := some 31, op := Op.pick (Operand.tmp 18) (Operand.const (Value.bool true)) (Operand.tmp 30), type := 4, pos := "l06_board.go:155", after := #[{ on := 3, ground := Ground.data }, { on := 15, ground := Ground.data }], guard := none }) (v := ?_) rfl (by kernel_rfl) (by kernel_rfl) (by kernel_rfl) (fun _ _ _ h => h) (Or.inl ⟨by rfl, ?_⟩) s1 ?_
        rotate_left
        · intro W hSw
          go_simp
          try with_reducible rfl
        simp only [Act.put, List.setIfInBounds_toArray, List.set_cons_zero, List.set_cons_succ]
        refine wpAnyH_done (by kernel_rfl) ?_ _
        have B1 := hide (bl_st s1 (unhide HB2))
        clear s1 hS0
        go_wp2
        go_ret
        exact ⟨by rw [unhide HE]; rfl, unhide B1⟩
      rcases Nat.eq_zero_or_pos j with h0 | h0
      · subst h0
        simp only [Nat.zero_mul, Nat.add_zero] at c0 c1 c2
        have HG := hide (step_all (unhide HGD) (stepOK_zero (unhide HP) hb1))
        clear hb1
        go_wp2
        clear c0 c1 c2
        generalize wr.alloc (.cells #[.int .i64 r, .int .i64 l, .string t] 34) = w2 at *
        refine wp_region_held (S := fun W' => Below w2.heap.size w2 W') (by kernel_rfl) ?_
        have hS0 : Below w2.heap.size w2 { w2 with drawn := w2.drawn + 1 } := below_drewN (Below.refl _ _) 1
        refine wpAnyH_take (i := 0) (oi := { dst := some 15, op := Op.load 34 (Operand.tmp 4), type := 34, pos := "l06_board.go:155", after := #[], guard := none }) (v := ?_) rfl (by kernel_rfl) (by kernel_rfl) (by kernel_rfl) (fun _ _ _ h => h) (Or.inl ⟨by rfl, ?_⟩) hS0 ?_
        rotate_left
        · intro W hSw
          obtain ⟨c0, c1, c2⟩ := (unhide PA).below (unhide LA) hSw
          dsimp only [Nat.zero_add] at c0 c1 c2
          go_simp
          try with_reducible rfl
        simp only [Act.put, List.setIfInBounds_toArray, List.set_cons_zero, List.set_cons_succ]
        refine wpAnyH_one (i := 1) (by kernel_rfl) ?_
        refine wpOp_step (o := { dst := some 16, op := Op.call { callee := Callee.value (Operand.func 21), args := #[Operand.tmp 15], argTypes := #[34] }, type := 4, pos := "l06_board.go:155", after := #[{ on := 0, ground := Ground.data }], guard := none }) rfl fun K' hK => step_enterW (by rfl) 21 #[postV (r, l, t)] (by go_simp) ((unhide K21 _).mono ?_)
        rintro e w3 ⟨rfl, b1⟩
        have s1 := bl_st b1 hS0
        clear b1
        refine ⟨_, rfl, hK _ _ ⟨s1, ?_⟩⟩
        simp only [Act.put, List.setIfInBounds_toArray, List.set_cons_zero, List.set_cons_succ]
        refine wpAnyH_take (i := 2) (oi := { dst := some 17, op := Op.unOp UnOp.not 4 (Operand.tmp 16), type := 4, pos := "l06_board.go:155", after := #[{ on := 1, ground := Ground.data }], guard := none }) (v := ?_) rfl (by kernel_rfl) (by kernel_rfl) (by kernel_rfl) (fun _ _ _ h => h) (Or.inl ⟨by rfl, ?_⟩) s1 ?_
        rotate_left
        · intro W hSw
          go_simp
          try with_reducible rfl
        simp only [Act.put, List.setIfInBounds_toArray, List.set_cons_zero, List.set_cons_succ]
        refine wpAnyH_take (i := 3) (oi := { dst := some 18, op := Op.move (Operand.tmp 17), type := 4, pos := "l06_board.go:155", after := #[{ on := 2, ground := Ground.data }, { on := 1, ground := Ground.chain }], guard := none }) (v := ?_) rfl (by kernel_rfl) (by kernel_rfl) (by kernel_rfl) (fun _ _ _ h => h) (Or.inl ⟨by rfl, ?_⟩) s1 ?_
        rotate_left
        · intro W hSw
          go_simp
          try with_reducible rfl
        simp only [Act.put, List.setIfInBounds_toArray, List.set_cons_zero, List.set_cons_succ]
        refine wpAnyH_take (i := 4) (oi := { dst := some 19, op := Op.move (Operand.tmp 3), type := 3, pos := "l06_board.go:155", after := #[{ on := 3, ground := Ground.guard }], guard := some (3, false) }) (v := ?_) rfl (by kernel_rfl) (by kernel_rfl) (by kernel_rfl) (fun _ _ _ h => h) (Or.inl ⟨by rfl, ?_⟩) s1 ?_
        rotate_left
        · intro W hSw
          go_simp
          try with_reducible rfl
        simp only [Act.put, List.setIfInBounds_toArray, List.set_cons_zero, List.set_cons_succ]
        refine wpAnyH_take (i := 5) (oi := { dst := some 20, op := Op.binOp BinOp.gtr 3 (Operand.tmp 19) (Operand.const (Value.int IntKind.i64 0)) 3, type := 4, pos := "l06_board.go:155", after := #[{ on := 4, ground := Ground.data }, { on := 3, ground := Ground.guard }], guard := some (3, false) }) (v := ?_) rfl (by kernel_rfl) (by kernel_rfl) (by kernel_rfl) (fun _ _ _ h => h) (Or.inl ⟨by rfl, ?_⟩) s1 ?_
        rotate_left
        · intro W hSw
          go_simp
          try with_reducible rfl
        simp only [Act.put, List.setIfInBounds_toArray, List.set_cons_zero, List.set_cons_succ]
        refine wpAnyH_take (i := 6) (oi := { dst := some 21, op := Op.move (Operand.tmp 20), type := 4, pos := "l06_board.go:155", after := #[{ on := 5, ground := Ground.data }, { on := 3, ground := Ground.chain }, { on := 3, ground := Ground.guard }], guard := some (3, false) }) (v := ?_) rfl (by kernel_rfl) (by kernel_rfl) (by kernel_rfl) (fun _ _ _ h => h) (Or.inl ⟨by rfl, ?_⟩) s1 ?_
        rotate_left
        · intro W hSw
          go_simp
          try with_reducible rfl
        simp only [Act.put, List.setIfInBounds_toArray, List.set_cons_zero, List.set_cons_succ]
        refine wpAnyH_take (i := 7) (oi := { dst := some 22, op := Op.load 34 (Operand.tmp 4), type := 34, pos := "l06_board.go:155", after := #[{ on := 6, ground := Ground.guard }], guard := some (6, true) }) (v := undef) rfl (by kernel_rfl) (by kernel_rfl) (by kernel_rfl) (fun _ _ _ h => h) (Or.inr ⟨by rfl, rfl⟩) s1 ?_
        simp only [Act.put, List.setIfInBounds_toArray, List.set_cons_zero, List.set_cons_succ]
        refine wpAnyH_take (i := 8) (oi := { dst := some 23, op := Op.move (Operand.tmp 0), type := 25, pos := "l06_board.go:155", after := #[{ on := 6, ground := Ground.guard }], guard := some (6, true) }) (v := undef) rfl (by kernel_rfl) (by kernel_rfl) (by kernel_rfl) (fun _ _ _ h => h) (Or.inr ⟨by rfl, rfl⟩) s1 ?_
        simp only [Act.put, List.setIfInBounds_toArray, List.set_cons_zero, List.set_cons_succ]
        refine wpAnyH_take (i := 9) (oi := { dst := some 24, op := Op.move (Operand.tmp 3), type := 3, pos := "l06_board.go:155", after := #[{ on := 6, ground := Ground.guard }], guard := some (6, true) }) (v := undef) rfl (by kernel_rfl) (by kernel_rfl) (by kernel_rfl) (fun _ _ _ h => h) (Or.inr ⟨by rfl, rfl⟩) s1 ?_
        simp only [Act.put, List.setIfInBounds_toArray, List.set_cons_zero, List.set_cons_succ]
        refine wpAnyH_take (i := 10) (oi := { dst := some 25, op := Op.binOp BinOp.sub 3 (Operand.tmp 24) (Operand.const (Value.int IntKind.i64 1)) 3, type := 3, pos := "l06_board.go:155", after := #[{ on := 9, ground := Ground.data }, { on := 6, ground := Ground.guard }], guard := some (6, true) }) (v := undef) rfl (by kernel_rfl) (by kernel_rfl) (by kernel_rfl) (fun _ _ _ h => h) (Or.inr ⟨by rfl, rfl⟩) s1 ?_
        simp only [Act.put, List.setIfInBounds_toArray, List.set_cons_zero, List.set_cons_succ]
        refine wpAnyH_take (i := 11) (oi := { dst := some 26, op := Op.indexAddr 25 (Operand.tmp 23) (Operand.tmp 25), type := 0, pos := "l06_board.go:155", after := #[{ on := 8, ground := Ground.data }, { on := 10, ground := Ground.data }, { on := 6, ground := Ground.guard }], guard := some (6, true) }) (v := undef) rfl (by kernel_rfl) (by kernel_rfl) (by kernel_rfl) (fun _ _ _ h => h) (Or.inr ⟨by rfl, rfl⟩) s1 ?_
        simp only [Act.put, List.setIfInBounds_toArray, List.set_cons_zero, List.set_cons_succ]
        refine wpAnyH_take (i := 12) (oi := { dst := some 27, op := Op.load 34 (Operand.tmp 26), type := 34, pos := "l06_board.go:155", after := #[{ on := 11, ground := Ground.data }, { on := 6, ground := Ground.guard }], guard := some (6, true) }) (v := undef) rfl (by kernel_rfl) (by kernel_rfl) (by kernel_rfl) (fun _ _ _ h => h) (Or.inr ⟨by rfl, rfl⟩) s1 ?_
        simp only [Act.put, List.setIfInBounds_toArray, List.set_cons_zero, List.set_cons_succ]
        refine wpAnyH_take (i := 13) (oi := { dst := some 28, op := Op.call { callee := Callee.value (Operand.func 22), args := #[Operand.tmp 22, Operand.tmp 27], argTypes := #[34, 34] }, type := 4, pos := "l06_board.go:155", after := #[{ on := 7, ground := Ground.data }, { on := 12, ground := Ground.data }, { on := 6, ground := Ground.chain }, { on := 6, ground := Ground.guard }], guard := some (6, true) }) (v := undef) rfl (by kernel_rfl) (by kernel_rfl) (by kernel_rfl) (fun _ _ _ h => h) (Or.inr ⟨by rfl, rfl⟩) s1 ?_
        simp only [Act.put, List.setIfInBounds_toArray, List.set_cons_zero, List.set_cons_succ]
        refine wpAnyH_take (i := 14) (oi := { dst := some 29, op := Op.unOp UnOp.not 4 (Operand.tmp 28), type := 4, pos := "l06_board.go:155", after := #[{ on := 13, ground := Ground.data }, { on := 6, ground := Ground.guard }], guard := some (6, true) }) (v := undef) rfl (by kernel_rfl) (by kernel_rfl) (by kernel_rfl) (fun _ _ _ h => h) (Or.inr ⟨by rfl, rfl⟩) s1 ?_
        simp only [Act.put, List.setIfInBounds_toArray, List.set_cons_zero, List.set_cons_succ]
        refine wpAnyH_take (i := 15) (oi := { dst := some 30, op := Op.pick (Operand.tmp 21) (Operand.tmp 29) (Operand.const (Value.bool false)), type := 4, pos := "l06_board.go:155", after := #[{ on := 6, ground := Ground.data }, { on := 14, ground := Ground.data }, { on := 3, ground := Ground.guard }], guard := some (3, false) }) (v := ?_) rfl (by kernel_rfl) (by kernel_rfl) (by kernel_rfl) (fun _ _ _ h => h) (Or.inl ⟨by rfl, ?_⟩) s1 ?_
        rotate_left
        · intro W hSw
          go_simp
          try with_reducible rfl
        simp only [Act.put, List.setIfInBounds_toArray, List.set_cons_zero, List.set_cons_succ]
        refine wpAnyH_take (i := 16) (oi := { dst := some 31, op := Op.pick (Operand.tmp 18) (Operand.const (Value.bool true)) (Operand.tmp 30), type := 4, pos := "l06_board.go:155", after := #[{ on := 3, ground := Ground.data }, { on := 15, ground := Ground.data }], guard := none }) (v := ?_) rfl (by kernel_rfl) (by kernel_rfl) (by kernel_rfl) (fun _ _ _ h => h) (Or.inl ⟨by rfl, ?_⟩) s1 ?_
        rotate_left
        · intro W hSw
          go_simp
          try with_reducible rfl
        simp only [Act.put, List.setIfInBounds_toArray, List.set_cons_zero, List.set_cons_succ]
        refine wpAnyH_done (by kernel_rfl) ?_ _
        have B1 := hide (bl_st s1 (unhide HB2))
        clear s1 hS0
        go_wp2
        go_roundw
        case rel => exact ⟨1, unhide HJ, by first | rfl | go_num, unhide HG, unhide B1⟩
        case measure => have := unhide HJ; simp [intOf]; omega
      · obtain ⟨k, rfl⟩ : ∃ k, j = k + 1 := ⟨j - 1, by omega⟩
        have pb := ((unhide HCL) k (by have := unhide HJ; omega)).below (unhide HBB) (unhide HBL)
        have HS : Hid (∀ q, ps.getD k noP = q → stepOK ps (k + 1) = later q (r, l, t)) := fun q hq => stepOK_succ (unhide HP) hq hb1
        generalize hq : ps.getD k noP = q' at *
        obtain ⟨r', l', t'⟩ := q'
        have HST := hide (unhide HS _ rfl)
        clear hq HS hb1
        have PB := hide (pb.below (unhide LB) (bl_al (o := .cells #[.int .i64 r, .int .i64 l, .string t] 34) (Below.refl _ _)))
        have LB2 := hide (show b < (wr.alloc (.cells #[.int .i64 r, .int .i64 l, .string t] 34)).heap.size by have := unhide LB; simp; omega)
        have wk : IntKind.i64.wrap (k : Int) = (k : Int) := by rw [IntKind.wrap_i64]; omega
        have k0 : (0 : Int) ≤ (k : Int) := by omega
        have kl : (k : Int) < (ps.length : Int) := by omega
        clear pb h0
        go_wp2
        clear c0 c1 c2
        generalize wr.alloc (.cells #[.int .i64 r, .int .i64 l, .string t] 34) = w2 at *
        have L22 := hide (fun W => later22 r l r' l' t t' W)
        generalize later (r', l', t') (r, l, t) = bl at *
        refine wp_region_held (S := fun W' => Below w2.heap.size w2 W') (by kernel_rfl) ?_
        have hS0 : Below w2.heap.size w2 { w2 with drawn := w2.drawn + 1 } := below_drewN (Below.refl _ _) 1
        refine wpAnyH_take (i := 0) (oi := { dst := some 15, op := Op.load 34 (Operand.tmp 4), type := 34, pos := "l06_board.go:155", after := #[], guard := none }) (v := ?_) rfl (by kernel_rfl) (by kernel_rfl) (by kernel_rfl) (fun _ _ _ h => h) (Or.inl ⟨by rfl, ?_⟩) hS0 ?_
        rotate_left
        · intro W hSw
          obtain ⟨c0, c1, c2⟩ := (unhide PA).below (unhide LA) hSw
          dsimp only [Nat.zero_add] at c0 c1 c2
          go_simp
          try with_reducible rfl
        simp only [Act.put, List.setIfInBounds_toArray, List.set_cons_zero, List.set_cons_succ]
        refine wpAnyH_one (i := 1) (by kernel_rfl) ?_
        refine wpOp_step (o := { dst := some 16, op := Op.call { callee := Callee.value (Operand.func 21), args := #[Operand.tmp 15], argTypes := #[34] }, type := 4, pos := "l06_board.go:155", after := #[{ on := 0, ground := Ground.data }], guard := none }) rfl fun K' hK => step_enterW (by rfl) 21 #[postV (r, l, t)] (by go_simp) ((unhide K21 _).mono ?_)
        rintro e w3 ⟨rfl, b1⟩
        have s1 := bl_st b1 hS0
        clear b1
        refine ⟨_, rfl, hK _ _ ⟨s1, ?_⟩⟩
        simp only [Act.put, List.setIfInBounds_toArray, List.set_cons_zero, List.set_cons_succ]
        refine wpAnyH_take (i := 2) (oi := { dst := some 17, op := Op.unOp UnOp.not 4 (Operand.tmp 16), type := 4, pos := "l06_board.go:155", after := #[{ on := 1, ground := Ground.data }], guard := none }) (v := ?_) rfl (by kernel_rfl) (by kernel_rfl) (by kernel_rfl) (fun _ _ _ h => h) (Or.inl ⟨by rfl, ?_⟩) s1 ?_
        rotate_left
        · intro W hSw
          go_simp
          try with_reducible rfl
        simp only [Act.put, List.setIfInBounds_toArray, List.set_cons_zero, List.set_cons_succ]
        refine wpAnyH_take (i := 3) (oi := { dst := some 18, op := Op.move (Operand.tmp 17), type := 4, pos := "l06_board.go:155", after := #[{ on := 2, ground := Ground.data }, { on := 1, ground := Ground.chain }], guard := none }) (v := ?_) rfl (by kernel_rfl) (by kernel_rfl) (by kernel_rfl) (fun _ _ _ h => h) (Or.inl ⟨by rfl, ?_⟩) s1 ?_
        rotate_left
        · intro W hSw
          go_simp
          try with_reducible rfl
        simp only [Act.put, List.setIfInBounds_toArray, List.set_cons_zero, List.set_cons_succ]
        refine wpAnyH_take (i := 4) (oi := { dst := some 19, op := Op.move (Operand.tmp 3), type := 3, pos := "l06_board.go:155", after := #[{ on := 3, ground := Ground.guard }], guard := some (3, false) }) (v := ?_) rfl (by kernel_rfl) (by kernel_rfl) (by kernel_rfl) (fun _ _ _ h => h) (Or.inl ⟨by rfl, ?_⟩) s1 ?_
        rotate_left
        · intro W hSw
          go_simp
          try with_reducible rfl
        simp only [Act.put, List.setIfInBounds_toArray, List.set_cons_zero, List.set_cons_succ]
        refine wpAnyH_take (i := 5) (oi := { dst := some 20, op := Op.binOp BinOp.gtr 3 (Operand.tmp 19) (Operand.const (Value.int IntKind.i64 0)) 3, type := 4, pos := "l06_board.go:155", after := #[{ on := 4, ground := Ground.data }, { on := 3, ground := Ground.guard }], guard := some (3, false) }) (v := ?_) rfl (by kernel_rfl) (by kernel_rfl) (by kernel_rfl) (fun _ _ _ h => h) (Or.inl ⟨by rfl, ?_⟩) s1 ?_
        rotate_left
        · intro W hSw
          go_simp
          try with_reducible rfl
        simp only [Act.put, List.setIfInBounds_toArray, List.set_cons_zero, List.set_cons_succ]
        refine wpAnyH_take (i := 6) (oi := { dst := some 21, op := Op.move (Operand.tmp 20), type := 4, pos := "l06_board.go:155", after := #[{ on := 5, ground := Ground.data }, { on := 3, ground := Ground.chain }, { on := 3, ground := Ground.guard }], guard := some (3, false) }) (v := ?_) rfl (by kernel_rfl) (by kernel_rfl) (by kernel_rfl) (fun _ _ _ h => h) (Or.inl ⟨by rfl, ?_⟩) s1 ?_
        rotate_left
        · intro W hSw
          go_simp
          try with_reducible rfl
        simp only [Act.put, List.setIfInBounds_toArray, List.set_cons_zero, List.set_cons_succ]
        refine wpAnyH_take (i := 7) (oi := { dst := some 22, op := Op.load 34 (Operand.tmp 4), type := 34, pos := "l06_board.go:155", after := #[{ on := 6, ground := Ground.guard }], guard := some (6, true) }) (v := ?_) rfl (by kernel_rfl) (by kernel_rfl) (by kernel_rfl) (fun _ _ _ h => h) (Or.inl ⟨by rfl, ?_⟩) s1 ?_
        rotate_left
        · intro W hSw
          obtain ⟨c0, c1, c2⟩ := (unhide PA).below (unhide LA) hSw
          dsimp only [Nat.zero_add] at c0 c1 c2
          obtain ⟨d0, d1, d2⟩ := (unhide PB).below (unhide LB2) hSw
          dsimp only [Nat.zero_add] at d0 d1 d2
          go_simp
          try with_reducible rfl
        simp only [Act.put, List.setIfInBounds_toArray, List.set_cons_zero, List.set_cons_succ]
        refine wpAnyH_take (i := 8) (oi := { dst := some 23, op := Op.move (Operand.tmp 0), type := 25, pos := "l06_board.go:155", after := #[{ on := 6, ground := Ground.guard }], guard := some (6, true) }) (v := ?_) rfl (by kernel_rfl) (by kernel_rfl) (by kernel_rfl) (fun _ _ _ h => h) (Or.inl ⟨by rfl, ?_⟩) s1 ?_
        rotate_left
        · intro W hSw
          obtain ⟨c0, c1, c2⟩ := (unhide PA).below (unhide LA) hSw
          dsimp only [Nat.zero_add] at c0 c1 c2
          obtain ⟨d0, d1, d2⟩ := (unhide PB).below (unhide LB2) hSw
          dsimp only [Nat.zero_add] at d0 d1 d2
          go_simp
          try with_reducible rfl
        simp only [Act.put, List.setIfInBounds_toArray, List.set_cons_zero, List.set_cons_succ]
        refine wpAnyH_take (i := 9) (oi := { dst := some 24, op := Op.move (Operand.tmp 3), type := 3, pos := "l06_board.go:155", after := #[{ on := 6, ground := Ground.guard }], guard := some (6, true) }) (v := ?_) rfl (by kernel_rfl) (by kernel_rfl) (by kernel_rfl) (fun _ _ _ h => h) (Or.inl ⟨by rfl, ?_⟩) s1 ?_
        rotate_left
        · intro W hSw
          obtain ⟨c0, c1, c2⟩ := (unhide PA).below (unhide LA) hSw
          dsimp only [Nat.zero_add] at c0 c1 c2
          obtain ⟨d0, d1, d2⟩ := (unhide PB).below (unhide LB2) hSw
          dsimp only [Nat.zero_add] at d0 d1 d2
          go_simp
          try with_reducible rfl
        simp only [Act.put, List.setIfInBounds_toArray, List.set_cons_zero, List.set_cons_succ]
        refine wpAnyH_take (i := 10) (oi := { dst := some 25, op := Op.binOp BinOp.sub 3 (Operand.tmp 24) (Operand.const (Value.int IntKind.i64 1)) 3, type := 3, pos := "l06_board.go:155", after := #[{ on := 9, ground := Ground.data }, { on := 6, ground := Ground.guard }], guard := some (6, true) }) (v := ?_) rfl (by kernel_rfl) (by kernel_rfl) (by kernel_rfl) (fun _ _ _ h => h) (Or.inl ⟨by rfl, ?_⟩) s1 ?_
        rotate_left
        · intro W hSw
          obtain ⟨c0, c1, c2⟩ := (unhide PA).below (unhide LA) hSw
          dsimp only [Nat.zero_add] at c0 c1 c2
          obtain ⟨d0, d1, d2⟩ := (unhide PB).below (unhide LB2) hSw
          dsimp only [Nat.zero_add] at d0 d1 d2
          go_simp
          try with_reducible rfl
        simp only [Act.put, List.setIfInBounds_toArray, List.set_cons_zero, List.set_cons_succ]
        refine wpAnyH_take (i := 11) (oi := { dst := some 26, op := Op.indexAddr 25 (Operand.tmp 23) (Operand.tmp 25), type := 0, pos := "l06_board.go:155", after := #[{ on := 8, ground := Ground.data }, { on := 10, ground := Ground.data }, { on := 6, ground := Ground.guard }], guard := some (6, true) }) (v := ?_) rfl (by kernel_rfl) (by kernel_rfl) (by kernel_rfl) (fun _ _ _ h => h) (Or.inl ⟨by rfl, ?_⟩) s1 ?_
        rotate_left
        · intro W hSw
          obtain ⟨c0, c1, c2⟩ := (unhide PA).below (unhide LA) hSw
          dsimp only [Nat.zero_add] at c0 c1 c2
          obtain ⟨d0, d1, d2⟩ := (unhide PB).below (unhide LB2) hSw
          dsimp only [Nat.zero_add] at d0 d1 d2
          go_simp
          try with_reducible rfl
        simp only [Act.put, List.setIfInBounds_toArray, List.set_cons_zero, List.set_cons_succ]
        refine wpAnyH_take (i := 12) (oi := { dst := some 27, op := Op.load 34 (Operand.tmp 26), type := 34, pos := "l06_board.go:155", after := #[{ on := 11, ground := Ground.data }, { on := 6, ground := Ground.guard }], guard := some (6, true) }) (v := ?_) rfl (by kernel_rfl) (by kernel_rfl) (by kernel_rfl) (fun _ _ _ h => h) (Or.inl ⟨by rfl, ?_⟩) s1 ?_
        rotate_left
        · intro W hSw
          obtain ⟨c0, c1, c2⟩ := (unhide PA).below (unhide LA) hSw
          dsimp only [Nat.zero_add] at c0 c1 c2
          obtain ⟨d0, d1, d2⟩ := (unhide PB).below (unhide LB2) hSw
          dsimp only [Nat.zero_add] at d0 d1 d2
          go_simp
          try with_reducible rfl
        simp only [Act.put, List.setIfInBounds_toArray, List.set_cons_zero, List.set_cons_succ]
        refine wpAnyH_one (i := 13) (by kernel_rfl) ?_
        refine wpOp_step (o := { dst := some 28, op := Op.call { callee := Callee.value (Operand.func 22), args := #[Operand.tmp 22, Operand.tmp 27], argTypes := #[34, 34] }, type := 4, pos := "l06_board.go:155", after := #[{ on := 7, ground := Ground.data }, { on := 12, ground := Ground.data }, { on := 6, ground := Ground.chain }, { on := 6, ground := Ground.guard }], guard := some (6, true) }) rfl fun K' hK => step_enterW (by rfl) 22 #[postV (r, l, t), postV (r', l', t')] (by go_simp) ((unhide L22 _).mono ?_)
        rintro e w4 ⟨rfl, b1⟩
        have s2 := bl_st b1 s1
        clear b1
        refine ⟨_, rfl, hK _ _ ⟨s2, ?_⟩⟩
        simp only [Act.put, List.setIfInBounds_toArray, List.set_cons_zero, List.set_cons_succ]
        refine wpAnyH_take (i := 14) (oi := { dst := some 29, op := Op.unOp UnOp.not 4 (Operand.tmp 28), type := 4, pos := "l06_board.go:155", after := #[{ on := 13, ground := Ground.data }, { on := 6, ground := Ground.guard }], guard := some (6, true) }) (v := ?_) rfl (by kernel_rfl) (by kernel_rfl) (by kernel_rfl) (fun _ _ _ h => h) (Or.inl ⟨by rfl, ?_⟩) s2 ?_
        rotate_left
        · intro W hSw
          go_simp
          try with_reducible rfl
        simp only [Act.put, List.setIfInBounds_toArray, List.set_cons_zero, List.set_cons_succ]
        refine wpAnyH_take (i := 15) (oi := { dst := some 30, op := Op.pick (Operand.tmp 21) (Operand.tmp 29) (Operand.const (Value.bool false)), type := 4, pos := "l06_board.go:155", after := #[{ on := 6, ground := Ground.data }, { on := 14, ground := Ground.data }, { on := 3, ground := Ground.guard }], guard := some (3, false) }) (v := ?_) rfl (by kernel_rfl) (by kernel_rfl) (by kernel_rfl) (fun _ _ _ h => h) (Or.inl ⟨by rfl, ?_⟩) s2 ?_
        rotate_left
        · intro W hSw
          go_simp
          try with_reducible rfl
        simp only [Act.put, List.setIfInBounds_toArray, List.set_cons_zero, List.set_cons_succ]
        refine wpAnyH_take (i := 16) (oi := { dst := some 31, op := Op.pick (Operand.tmp 18) (Operand.const (Value.bool true)) (Operand.tmp 30), type := 4, pos := "l06_board.go:155", after := #[{ on := 3, ground := Ground.data }, { on := 15, ground := Ground.data }], guard := none }) (v := ?_) rfl (by kernel_rfl) (by kernel_rfl) (by kernel_rfl) (fun _ _ _ h => h) (Or.inl ⟨by rfl, ?_⟩) s2 ?_
        rotate_left
        · intro W hSw
          go_simp
          try with_reducible rfl
        simp only [Act.put, List.setIfInBounds_toArray, List.set_cons_zero, List.set_cons_succ]
        refine wpAnyH_done (by kernel_rfl) ?_ _
        have B1 := hide (bl_st s2 (unhide HB2))
        clear s1 s2 hS0
        cases bl
        · have HE := hide (bOK_no (unhide HJ) (unhide HST))
          go_wp2
          go_ret
          exact ⟨by rw [unhide HE]; rfl, unhide B1⟩
        · have HG := hide (step_all (unhide HGD) (unhide HST))
          go_wp2
          go_roundw
          case rel => exact ⟨k + 1 + 1, unhide HJ, by go_num, unhide HG, unhide B1⟩
          case measure => have := unhide HJ; simp [intOf]; omega
    · obtain rfl : j = ps.length := by omega
      have HE := hide (bOK_yes (unhide H64) (unhide HGD))
      clear hlt HGD
      go_wp2
      go_ret
      exact ⟨by rw [unhide HE]; rfl, unhide HBL⟩
theorem long33 (A : Option Addr) (n cap : Nat) (hn : n ≤ 2097152) (w : World) : Calls Try.prog 33 #[.slice A n cap] w fun e w' => e = .returned (.bool (decide (4096 < n))) ∧ w' = w := by
  have n0 : (0 : Int) ≤ (n : Int) := by omega
  go_enter Try.func33, Try.ntmps33
  go_wp2
  all_goals
    go_ret
    exact ⟨ret_bool (by rw [Bool.eq_iff_iff]; simp; try omega), rfl⟩
/-- a board's code -/
def bC (ps : List Pst) : Int := if 4096 < ps.length then 2 else if bOK ps = true then 0 else 1
theorem code24 (v : Value) (ps : List Pst) (w : World) (hv : postsV w v ps) (hl : ps.length ≤ 2097152) :
    Calls Try.prog 24 #[v] w fun e w' => e = .returned (.int .i64 (bC ps)) ∧ Below w.heap.size w w' := by
  have h9 := hide (bo9 v ps w hv hl)
  obtain ⟨A, cap, rfl, hc⟩ := hv
  have h33 := hide (long33 A ps.length cap hl w)
  unfold bC
  generalize bOK ps = b at *
  clear hc hl
  by_cases h4 : 4096 < ps.length
  · rw [if_pos h4]
    rw [decide_eq_true h4] at h33
    clear h4
    go_enter Try.func24, Try.ntmps24
    go_wp2_with fail
    refine (unhide h33).mono ?_
    rintro e w1 ⟨rfl, rfl⟩
    go_wp2
    go_ret
    exact ⟨rfl, Below.refl _ _⟩
  · rw [if_neg h4]
    rw [decide_eq_false h4] at h33
    clear h4
    go_enter Try.func24, Try.ntmps24
    go_wp2_with fail
    refine (unhide h33).mono ?_
    rintro e w1 ⟨rfl, rfl⟩
    go_wp2_with fail
    refine (unhide h9).mono ?_
    rintro e w1 ⟨rfl, b1⟩
    cases b
    · go_wp2
      go_ret
      exact ⟨rfl, b1⟩
    · go_wp2
      go_ret
      exact ⟨rfl, b1⟩
end Go.Proofs.Ytgjkflhpnppkbaa
