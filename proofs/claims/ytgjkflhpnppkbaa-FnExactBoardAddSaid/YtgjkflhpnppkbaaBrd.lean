/- Right boards, as the specification and the program find them. -/
import Derived.Test.YtgjkflhpnppkbaaPst
namespace Go.Proofs.Ytgjkflhpnppkbaa
open Go.RowKit
set_option maxHeartbeats 4000000
set_option maxRecDepth 20000
def okP (p : Pst) : Bool := (decide (0 ≤ p.1) && decide (p.1 ≤ 1000000)) && (decide (0 ≤ p.2.1) && decide (p.2.1 ≤ 255)) && decide (p.2.2.size = 32)
/-- b is later than a -/
def later (a b : Pst) : Bool := decide (a.1 < b.1) || (decide (b.1 = a.1) && decide (a.2.1 < b.2.1))
def stepOK (ps : List Pst) (i : Nat) : Bool := okP (ps.getD i noP) && (decide (i = 0) || later (ps.getD (i - 1) noP) (ps.getD i noP))
def bOK (ps : List Pst) : Bool := decide (ps.length ≤ 64) && (List.range ps.length).all (stepOK ps)
theorem bOK_yes {ps : List Pst} (h : ps.length ≤ 64) (hh : ∀ i, i < ps.length → stepOK ps i = true) : bOK ps = true := by
  unfold bOK
  rw [decide_eq_true h, Bool.true_and, List.all_eq_true]
  intro i hi
  exact hh i (List.mem_range.1 hi)
theorem bOK_no {ps : List Pst} {i : Nat} (hi : i < ps.length) (h : stepOK ps i = false) : bOK ps = false := by
  unfold bOK
  rw [show (List.range ps.length).all (stepOK ps) = false from ?_, Bool.and_false]
  rw [List.all_eq_false]
  exact ⟨i, List.mem_range.2 hi, by rw [h]; decide⟩
theorem bOK_long {ps : List Pst} (h : 64 < ps.length) : bOK ps = false := by
  unfold bOK
  rw [decide_eq_false (by omega), Bool.false_and]
theorem later20 (r l r' l' : Int) (t t' : ByteArray) (w : World) :
    Calls Try.prog 20 #[postV (r, l, t), postV (r', l', t')] w fun e w' => e = .returned (.bool (later (r, l, t) (r', l', t'))) ∧ Below w.heap.size w w' := by
  unfold later
  dsimp only
  go_enter Try.func20, Try.ntmps20
  go_wp2
  all_goals
    go_ret
    exact ⟨ret_bool (by first | rfl | (rw [Bool.eq_iff_iff]; simp; done) | (rw [Bool.eq_iff_iff]; simp; omega)), bl_al (bl_al (Below.refl _ _))⟩
theorem no30 (t : ByteArray) (w : World) : Calls Try.prog 30 #[.string t] w fun e w' => e = .returned (.bool (!decide (t.size = 32))) ∧ w' = w := by
  go_enter Try.func30, Try.ntmps30
  go_wp2
  all_goals
    go_ret
    exact ⟨ret_bool (by rw [Bool.eq_iff_iff]; simp; try omega), rfl⟩
theorem nan36 (n : Int) (w : World) : Calls Try.prog 36 #[.int .i64 n] w fun e w' => e = .returned (.bool false) ∧ w' = w := by
  go_enter Try.func36, Try.ntmps36
  go_wp2
  go_ret
  exact ⟨rfl, rfl⟩
def cmpI (a b : Int) : Int := if a < b then -1 else if b < a then 1 else 0
theorem cmp32 (a b : Int) (w : World) : Calls Try.prog 32 #[.int .i64 a, .int .i64 b] w fun e w' => e = .returned (.int .i64 (cmpI a b)) ∧ w' = w := by
  have n1 := hide (nan36 a w)
  have n2 := hide (nan36 b w)
  unfold cmpI
  rcases Int.lt_trichotomy a b with h | h | h
  · rw [if_pos h]
    go_enter Try.func32, Try.ntmps32
    go_wp2_with fail
    refine (unhide n1).mono ?_
    rintro e w1 ⟨rfl, rfl⟩
    go_wp2_with fail
    refine (unhide n2).mono ?_
    rintro e w1 ⟨rfl, rfl⟩
    go_wp2
    go_ret
    exact ⟨rfl, rfl⟩
  · subst h
    rw [if_neg (Int.lt_irrefl _), if_neg (Int.lt_irrefl _)]
    go_enter Try.func32, Try.ntmps32
    go_wp2_with fail
    refine (unhide n1).mono ?_
    rintro e w1 ⟨rfl, rfl⟩
    go_wp2_with fail
    refine (unhide n2).mono ?_
    rintro e w1 ⟨rfl, rfl⟩
    go_wp2
    go_ret
    exact ⟨rfl, rfl⟩
  · rw [if_neg (by omega), if_pos h]
    have h' : ¬ a < b := by omega
    go_enter Try.func32, Try.ntmps32
    go_wp2_with fail
    refine (unhide n1).mono ?_
    rintro e w1 ⟨rfl, rfl⟩
    go_wp2_with fail
    refine (unhide n2).mono ?_
    rintro e w1 ⟨rfl, rfl⟩
    go_wp2
    go_ret
    exact ⟨rfl, rfl⟩
theorem or31 (g : Nat) (x y : Int) (w : World) (c0 : w.cell? ⟨g, 0, none⟩ = some (.int .i64 x)) (c1 : w.cell? ⟨g, 1, none⟩ = some (.int .i64 y)) :
    Calls Try.prog 31 #[.slice (some ⟨g, 0, none⟩) 2 2] w fun e w' => e = .returned (.int .i64 (if x = 0 then y else x)) ∧ w' = w := by
  by_cases hx : x = 0
  · subst hx
    rw [if_pos rfl]
    by_cases hy : y = 0
    · subst hy
      go_enter Try.func31, Try.ntmps31
      go_wp2
      refine wp_loop_rounds 3 ?_
      rw [rounds_succ]; go_wp2
      rw [rounds_succ]; go_wp2
      rw [rounds_succ]; go_wp2
      go_ret
      exact ⟨rfl, rfl⟩
    · go_enter Try.func31, Try.ntmps31
      go_wp2
      refine wp_loop_rounds 2 ?_
      rw [rounds_succ]; go_wp2
      rw [rounds_succ]; go_wp2
      go_ret
      exact ⟨rfl, rfl⟩
  · rw [if_neg hx]
    go_enter Try.func31, Try.ntmps31
    go_wp2
    refine wp_loop_rounds 1 ?_
    rw [rounds_succ]; go_wp2
    go_ret
    exact ⟨rfl, rfl⟩
theorem later22 (r l r' l' : Int) (t t' : ByteArray) (w : World) :
    Calls Try.prog 22 #[postV (r, l, t), postV (r', l', t')] w fun e w' => e = .returned (.bool (later (r', l', t') (r, l, t))) ∧ Below w.heap.size w w' := by
  have PA := hide ((pc_new w r l t 34).below (by simp) (bl_al (o := .cells #[.int .i64 r', .int .i64 l', .string t'] 34) (Below.refl _ _)))
  have PB := hide (pc_new (w.alloc (.cells #[.int .i64 r, .int .i64 l, .string t] 34)) r' l' t' 34)
  have HB := hide (show Below w.heap.size w ((w.alloc (.cells #[.int .i64 r, .int .i64 l, .string t] 34)).alloc (.cells #[.int .i64 r', .int .i64 l', .string t'] 34)) from bl_al (bl_al (Below.refl _ _)))
  have LA := hide (show w.heap.size < ((w.alloc (.cells #[.int .i64 r, .int .i64 l, .string t] 34)).alloc (.cells #[.int .i64 r', .int .i64 l', .string t'] 34)).heap.size by simp; omega)
  have LB := hide (show (w.alloc (.cells #[.int .i64 r, .int .i64 l, .string t] 34)).heap.size < ((w.alloc (.cells #[.int .i64 r, .int .i64 l, .string t] 34)).alloc (.cells #[.int .i64 r', .int .i64 l', .string t'] 34)).heap.size by simp)
  rw [show (w.alloc (.cells #[.int .i64 r, .int .i64 l, .string t] 34)).heap.size = w.heap.size + 1 by simp] at PB LB
  unfold later
  dsimp only
  go_enter Try.func22, Try.ntmps22
  go_wp2
  generalize (w.alloc (.cells #[.int .i64 r, .int .i64 l, .string t] 34)).alloc (.cells #[.int .i64 r', .int .i64 l', .string t'] 34) = w2 at *
  refine wp_region_held (S := fun W' => Below w2.heap.size w2 W') (by kernel_rfl) ?_
  have hS0 : Below w2.heap.size w2 { w2 with drawn := w2.drawn + 1 } := below_drewN (Below.refl _ _) 1
  refine wpAnyH_take (i := 0) (oi := { dst := some 5, op := Op.fieldAddr 34 (Operand.tmp 2) 0, type := 0, pos := "l06_board.go:147", after := #[], guard := none }) (v := ?_) rfl (by kernel_rfl) (by kernel_rfl) (by kernel_rfl) (fun _ _ _ h => h) (Or.inl ⟨by rfl, ?_⟩) hS0 ?_
  rotate_left
  · intro W hSw
    obtain ⟨c0, c1, c2⟩ := (unhide PA).below (unhide LA) hSw
    obtain ⟨d0, d1, d2⟩ := (unhide PB).below (unhide LB) hSw
    dsimp only [Nat.zero_add] at c0 c1 c2 d0 d1 d2
    go_simp
    try with_reducible rfl
  simp only [Act.put, List.setIfInBounds_toArray, List.set_cons_zero, List.set_cons_succ]
  refine wpAnyH_take (i := 1) (oi := { dst := some 6, op := Op.load 3 (Operand.tmp 5), type := 3, pos := "l06_board.go:147", after := #[{ on := 0, ground := Ground.data }], guard := none }) (v := ?_) rfl (by kernel_rfl) (by kernel_rfl) (by kernel_rfl) (fun _ _ _ h => h) (Or.inl ⟨by rfl, ?_⟩) hS0 ?_
  rotate_left
  · intro W hSw
    obtain ⟨c0, c1, c2⟩ := (unhide PA).below (unhide LA) hSw
    obtain ⟨d0, d1, d2⟩ := (unhide PB).below (unhide LB) hSw
    dsimp only [Nat.zero_add] at c0 c1 c2 d0 d1 d2
    go_simp
    try with_reducible rfl
  simp only [Act.put, List.setIfInBounds_toArray, List.set_cons_zero, List.set_cons_succ]
  refine wpAnyH_take (i := 2) (oi := { dst := some 7, op := Op.fieldAddr 34 (Operand.tmp 3) 0, type := 0, pos := "l06_board.go:147", after := #[], guard := none }) (v := ?_) rfl (by kernel_rfl) (by kernel_rfl) (by kernel_rfl) (fun _ _ _ h => h) (Or.inl ⟨by rfl, ?_⟩) hS0 ?_
  rotate_left
  · intro W hSw
    obtain ⟨c0, c1, c2⟩ := (unhide PA).below (unhide LA) hSw
    obtain ⟨d0, d1, d2⟩ := (unhide PB).below (unhide LB) hSw
    dsimp only [Nat.zero_add] at c0 c1 c2 d0 d1 d2
    go_simp
    try with_reducible rfl
  simp only [Act.put, List.setIfInBounds_toArray, List.set_cons_zero, List.set_cons_succ]
  refine wpAnyH_take (i := 3) (oi := { dst := some 8, op := Op.load 3 (Operand.tmp 7), type := 3, pos := "l06_board.go:147", after := #[{ on := 2, ground := Ground.data }], guard := none }) (v := ?_) rfl (by kernel_rfl) (by kernel_rfl) (by kernel_rfl) (fun _ _ _ h => h) (Or.inl ⟨by rfl, ?_⟩) hS0 ?_
  rotate_left
  · intro W hSw
    obtain ⟨c0, c1, c2⟩ := (unhide PA).below (unhide LA) hSw
    obtain ⟨d0, d1, d2⟩ := (unhide PB).below (unhide LB) hSw
    dsimp only [Nat.zero_add] at c0 c1 c2 d0 d1 d2
    go_simp
    try with_reducible rfl
  simp only [Act.put, List.setIfInBounds_toArray, List.set_cons_zero, List.set_cons_succ]
  refine wpAnyH_take (i := 5) (oi := { dst := some 10, op := Op.fieldAddr 34 (Operand.tmp 2) 1, type := 0, pos := "l06_board.go:147", after := #[], guard := none }) (v := ?_) rfl (by kernel_rfl) (by kernel_rfl) (by kernel_rfl) (fun _ _ _ h => h) (Or.inl ⟨by rfl, ?_⟩) hS0 ?_
  rotate_left
  · intro W hSw
    obtain ⟨c0, c1, c2⟩ := (unhide PA).below (unhide LA) hSw
    obtain ⟨d0, d1, d2⟩ := (unhide PB).below (unhide LB) hSw
    dsimp only [Nat.zero_add] at c0 c1 c2 d0 d1 d2
    go_simp
    try with_reducible rfl
  simp only [Act.put, List.setIfInBounds_toArray, List.set_cons_zero, List.set_cons_succ]
  refine wpAnyH_take (i := 6) (oi := { dst := some 11, op := Op.load 3 (Operand.tmp 10), type := 3, pos := "l06_board.go:147", after := #[{ on := 5, ground := Ground.data }], guard := none }) (v := ?_) rfl (by kernel_rfl) (by kernel_rfl) (by kernel_rfl) (fun _ _ _ h => h) (Or.inl ⟨by rfl, ?_⟩) hS0 ?_
  rotate_left
  · intro W hSw
    obtain ⟨c0, c1, c2⟩ := (unhide PA).below (unhide LA) hSw
    obtain ⟨d0, d1, d2⟩ := (unhide PB).below (unhide LB) hSw
    dsimp only [Nat.zero_add] at c0 c1 c2 d0 d1 d2
    go_simp
    try with_reducible rfl
  simp only [Act.put, List.setIfInBounds_toArray, List.set_cons_zero, List.set_cons_succ]
  refine wpAnyH_take (i := 7) (oi := { dst := some 12, op := Op.fieldAddr 34 (Operand.tmp 3) 1, type := 0, pos := "l06_board.go:147", after := #[], guard := none }) (v := ?_) rfl (by kernel_rfl) (by kernel_rfl) (by kernel_rfl) (fun _ _ _ h => h) (Or.inl ⟨by rfl, ?_⟩) hS0 ?_
  rotate_left
  · intro W hSw
    obtain ⟨c0, c1, c2⟩ := (unhide PA).below (unhide LA) hSw
    obtain ⟨d0, d1, d2⟩ := (unhide PB).below (unhide LB) hSw
    dsimp only [Nat.zero_add] at c0 c1 c2 d0 d1 d2
    go_simp
    try with_reducible rfl
  simp only [Act.put, List.setIfInBounds_toArray, List.set_cons_zero, List.set_cons_succ]
  refine wpAnyH_take (i := 8) (oi := { dst := some 13, op := Op.load 3 (Operand.tmp 12), type := 3, pos := "l06_board.go:147", after := #[{ on := 7, ground := Ground.data }], guard := none }) (v := ?_) rfl (by kernel_rfl) (by kernel_rfl) (by kernel_rfl) (fun _ _ _ h => h) (Or.inl ⟨by rfl, ?_⟩) hS0 ?_
  rotate_left
  · intro W hSw
    obtain ⟨c0, c1, c2⟩ := (unhide PA).below (unhide LA) hSw
    obtain ⟨d0, d1, d2⟩ := (unhide PB).below (unhide LB) hSw
    dsimp only [Nat.zero_add] at c0 c1 c2 d0 d1 d2
    go_simp
    try with_reducible rfl
  simp only [Act.put, List.setIfInBounds_toArray, List.set_cons_zero, List.set_cons_succ]
  refine wpAnyH_one (i := 4) (by kernel_rfl) ?_
  refine wpOp_step (o := { dst := some 9, op := Op.call { callee := Callee.value (Operand.func 32), args := #[Operand.tmp 6, Operand.tmp 8], argTypes := #[3, 3] }, type := 3, pos := "l06_board.go:147", after := #[{ on := 1, ground := Ground.data }, { on := 3, ground := Ground.data }], guard := none }) rfl fun K' hK => step_enterW (by rfl) 32 #[.int .i64 r, .int .i64 r'] (by go_simp) ((cmp32 r r' _).mono ?_)
  rintro e wa ⟨rfl, rfl⟩

  refine ⟨_, rfl, hK _ _ ⟨hS0, ?_⟩⟩
  simp only [Act.put, List.setIfInBounds_toArray, List.set_cons_zero, List.set_cons_succ]
  refine wpAnyH_one (i := 9) (by kernel_rfl) ?_
  refine wpOp_step (o := { dst := some 14, op := Op.call { callee := Callee.value (Operand.func 32), args := #[Operand.tmp 11, Operand.tmp 13], argTypes := #[3, 3] }, type := 3, pos := "l06_board.go:147", after := #[{ on := 6, ground := Ground.data }, { on := 8, ground := Ground.data }, { on := 4, ground := Ground.chain }], guard := none }) rfl fun K' hK => step_enterW (by rfl) 32 #[.int .i64 l, .int .i64 l'] (by go_simp) ((cmp32 l l' _).mono ?_)
  rintro e wa ⟨rfl, rfl⟩

  refine ⟨_, rfl, hK _ _ ⟨hS0, ?_⟩⟩
  simp only [Act.put, List.setIfInBounds_toArray, List.set_cons_zero, List.set_cons_succ]
  have N5 : (({ w2 with drawn := w2.drawn + 1 } : World).alloc (.cells #[.int .i64 (cmpI r r'), .int .i64 (cmpI l l')] 3)).heap[w2.heap.size]? = some (.cells #[.int .i64 (cmpI r r'), .int .i64 (cmpI l l')] 3 (0, 0)) := heap_at _ _ _ rfl
  have s5 : Below w2.heap.size w2 (({ w2 with drawn := w2.drawn + 1 } : World).alloc (.cells #[.int .i64 (cmpI r r'), .int .i64 (cmpI l l')] 3)) := bl_al hS0
  refine wpAnyH_one (i := 10) (by kernel_rfl) ?_
  refine wpOp_step (o := { dst := some 15, op := Op.buildSlice 55 2 #[(0, Operand.tmp 9), (1, Operand.tmp 14)], type := 55, pos := "l06_board.go:147", after := #[{ on := 4, ground := Ground.data }, { on := 9, ground := Ground.data }], guard := none }) rfl fun K' hK => step_valueW (by rfl) (.slice (some ⟨w2.heap.size, 0, none⟩) 2 2) (({ w2 with drawn := w2.drawn + 1 } : World).alloc (.cells #[.int .i64 (cmpI r r'), .int .i64 (cmpI l l')] 3)) (by go_simp) ?_
  refine hK _ _ ⟨s5, ?_⟩
  simp only [Act.put, List.setIfInBounds_toArray, List.set_cons_zero, List.set_cons_succ]
  refine wpAnyH_one (i := 11) (by kernel_rfl) ?_
  refine wpOp_step (o := { dst := some 16, op := Op.call { callee := Callee.value (Operand.func 31), args := #[Operand.tmp 15], argTypes := #[55] }, type := 3, pos := "l06_board.go:147", after := #[{ on := 10, ground := Ground.data }, { on := 9, ground := Ground.chain }], guard := none }) rfl fun K' hK => step_enterW (by rfl) 31 #[.slice (some ⟨w2.heap.size, 0, none⟩) 2 2] (by go_simp) ((or31 w2.heap.size (cmpI r r') (cmpI l l') _ (row_cell N5) (row_cell N5)).mono ?_)
  rintro e wa ⟨rfl, rfl⟩

  refine ⟨_, rfl, hK _ _ ⟨s5, ?_⟩⟩
  simp only [Act.put, List.setIfInBounds_toArray, List.set_cons_zero, List.set_cons_succ]
  have eq : decide ((0 : Int) < (if cmpI r r' = 0 then cmpI l l' else cmpI r r')) = (decide (r' < r) || (decide (r = r') && decide (l' < l))) := by
    unfold cmpI
    rw [Bool.eq_iff_iff]
    simp only [decide_eq_true_eq, Bool.or_eq_true, Bool.and_eq_true]
    (repeat' split) <;> omega
  generalize (if cmpI r r' = 0 then cmpI l l' else cmpI r r') = z at *
  refine wpAnyH_take (i := 12) (oi := { dst := some 17, op := Op.binOp BinOp.gtr 3 (Operand.tmp 16) (Operand.const (Value.int IntKind.i64 0)) 3, type := 4, pos := "l06_board.go:147", after := #[{ on := 11, ground := Ground.data }], guard := none }) (v := ?_) rfl (by kernel_rfl) (by kernel_rfl) (by kernel_rfl) (fun _ _ _ h => h) (Or.inl ⟨by rfl, ?_⟩) s5 ?_
  rotate_left
  · intro W hSw
    obtain ⟨c0, c1, c2⟩ := (unhide PA).below (unhide LA) hSw
    obtain ⟨d0, d1, d2⟩ := (unhide PB).below (unhide LB) hSw
    dsimp only [Nat.zero_add] at c0 c1 c2 d0 d1 d2
    go_simp
    try with_reducible rfl
  simp only [Act.put, List.setIfInBounds_toArray, List.set_cons_zero, List.set_cons_succ]
  refine wpAnyH_take (i := 13) (oi := { dst := some 4, op := Op.assign (Operand.tmp 17), type := 4, pos := "l06_board.go:147", after := #[{ on := 12, ground := Ground.data }, { on := 11, ground := Ground.chain }, { on := 0, ground := Ground.phase }, { on := 1, ground := Ground.phase }, { on := 2, ground := Ground.phase }, { on := 3, ground := Ground.phase }, { on := 4, ground := Ground.phase }, { on := 5, ground := Ground.phase }, { on := 6, ground := Ground.phase }, { on := 7, ground := Ground.phase }, { on := 8, ground := Ground.phase }, { on := 9, ground := Ground.phase }, { on := 10, ground := Ground.phase }, { on := 11, ground := Ground.phase }, { on := 12, ground := Ground.phase }], guard := none }) (v := ?_) rfl (by kernel_rfl) (by kernel_rfl) (by kernel_rfl) (fun _ _ _ h => h) (Or.inl ⟨by rfl, ?_⟩) s5 ?_
  rotate_left
  · intro W hSw
    obtain ⟨c0, c1, c2⟩ := (unhide PA).below (unhide LA) hSw
    obtain ⟨d0, d1, d2⟩ := (unhide PB).below (unhide LB) hSw
    dsimp only [Nat.zero_add] at c0 c1 c2 d0 d1 d2
    go_simp
    try with_reducible rfl
  simp only [Act.put, List.setIfInBounds_toArray, List.set_cons_zero, List.set_cons_succ]
  refine wpAnyH_done (by kernel_rfl) ?_ _
  go_wp2
  go_ret
  exact ⟨rfl, bl_st s5 (unhide HB)⟩
theorem pok21 (r l : Int) (t : ByteArray) (w : World) :
    Calls Try.prog 21 #[postV (r, l, t)] w fun e w' => e = .returned (.bool (okP (r, l, t))) ∧ Below w.heap.size w w' := by
  have HB := hide (show Below w.heap.size w (w.alloc (.cells #[.int .i64 r, .int .i64 l, .string t] 34)) from bl_al (Below.refl _ _))
  have c1 := hide (rok r)
  have c2 := hide (lok l)
  have c3 := hide (no30 t)
  unfold okP
  dsimp only
  generalize (decide (0 ≤ r) && decide (r ≤ 1000000)) = b1 at *
  generalize (decide (0 ≤ l) && decide (l ≤ 255)) = b2 at *
  generalize decide (t.size = 32) = b3 at *
  cases b1
  · go_enter Try.func21, Try.ntmps21
    go_wp2_with fail
    refine (unhide c1 _).mono ?_
    rintro e w1 ⟨rfl, rfl⟩
    go_wp2
    go_ret
    exact ⟨rfl, unhide HB⟩
  · cases b2
    · go_enter Try.func21, Try.ntmps21
      go_wp2_with fail
      refine (unhide c1 _).mono ?_
      rintro e w1 ⟨rfl, rfl⟩
      go_wp2_with fail
      refine (unhide c2 _).mono ?_
      rintro e w1 ⟨rfl, rfl⟩
      go_wp2
      go_ret
      exact ⟨rfl, unhide HB⟩
    · go_enter Try.func21, Try.ntmps21
      go_wp2_with fail
      refine (unhide c1 _).mono ?_
      rintro e w1 ⟨rfl, rfl⟩
      go_wp2_with fail
      refine (unhide c2 _).mono ?_
      rintro e w1 ⟨rfl, rfl⟩
      go_wp2_with fail
      refine (unhide c3 _).mono ?_
      rintro e w1 ⟨rfl, rfl⟩
      go_wp2
      go_ret
      exact ⟨by simp, unhide HB⟩
theorem stepOK_bad {ps : List Pst} {i : Nat} {p : Pst} (h : ps.getD i noP = p) (hb : okP p = false) : stepOK ps i = false := by
  unfold stepOK; rw [h, hb]; rfl
theorem stepOK_zero {ps : List Pst} {p : Pst} (h : ps.getD 0 noP = p) (hb : okP p = true) : stepOK ps 0 = true := by
  unfold stepOK; rw [h, hb]; rfl
theorem stepOK_succ {ps : List Pst} {k : Nat} {p q : Pst} (h : ps.getD (k + 1) noP = p) (h' : ps.getD k noP = q) (hb : okP p = true) : stepOK ps (k + 1) = later q p := by
  unfold stepOK; rw [h, hb, show k + 1 - 1 = k by omega, h']; simp
theorem step_all {ps : List Pst} {j : Nat} (h : ∀ i, i < j → stepOK ps i = true) (hj : stepOK ps j = true) : ∀ i, i < j + 1 → stepOK ps i = true := fun i hi => by
  rcases Nat.lt_succ_iff_lt_or_eq.1 hi with h1 | rfl
  · exact h i h1
  · exact hj
theorem bo7 (v : Value) (ps : List Pst) (w : World) (hv : postsV w v ps) (hl : ps.length ≤ 2097152) :
    Calls Try.prog 7 #[v] w fun e w' => e = .returned (.bool (bOK ps)) ∧ Below w.heap.size w w' := by
  obtain ⟨A, cap, rfl, hc⟩ := hv
  have HC := hide hc
  have n0 : (0 : Int) ≤ (ps.length : Int) := by omega
  have n1 : (ps.length : Int) ≤ 2097152 := by omega
  clear hc
  by_cases h4 : 4096 < ps.length
  · have q : (4096 : Int) < (ps.length : Int) := by omega
    rw [bOK_long (by omega)]
    clear h4 HC
    go_enter Try.func7, Try.ntmps7
    go_wp2
    go_ret
    exact ⟨rfl, Below.refl _ _⟩
  have q4 : (ps.length : Int) ≤ 4096 := by omega
  clear h4
  by_cases h64 : 64 < ps.length
  · have q : (64 : Int) < (ps.length : Int) := by omega
    rw [bOK_long h64]
    clear h64 HC
    go_enter Try.func7, Try.ntmps7
    go_wp2
    go_ret
    exact ⟨rfl, Below.refl _ _⟩
  have q : (ps.length : Int) ≤ 64 := by omega
  have H64 := hide (show ps.length ≤ 64 by omega)
  clear h64 hl
  go_enter Try.func7, Try.ntmps7
  go_wp2
  go_loopw [3] (fun i wr => ∃ j : Nat, j ≤ ps.length ∧ i = .int .i64 j ∧ (∀ i, i < j → stepOK ps i = true) ∧ Below w.heap.size w wr) (fun i _ => ps.length - (intOf i).toNat)
  case atStart => exact ⟨0, by omega, rfl, fun _ h => absurd h (Nat.not_lt_zero _), Below.refl _ _⟩
  case round =>
    obtain ⟨j, hj, rfl, hgood, hbl⟩ := hrel
    have HGD := hide hgood
    have HBL := hide hbl
    clear hgood hbl
    by_cases hlt : j < ps.length
    · obtain ⟨b, off, hA, hbb, hcell⟩ := unhide HC (by omega)
      subst hA
      have q1 : (j : Int) < (ps.length : Int) := by omega
      have q0 : (0 : Int) ≤ (j : Int) := by omega
      have HCL := hide hcell
      have LB := hide (Nat.lt_of_lt_of_le hbb (unhide HBL).size)
      have pc := (hcell j hlt).below hbb (unhide HBL)
      have HJ := hide hlt
      have HBB := hide hbb
      clear hcell hlt hj hbb
      generalize hp : ps.getD j noP = p at *
      obtain ⟨r, l, t⟩ := p
      have HP := hide hp
      clear hp
      obtain ⟨c0, c1, c2⟩ := pc
      dsimp only at c0 c1 c2
      have HB2 := hide (show Below w.heap.size w (wr.alloc (.cells #[.int .i64 r, .int .i64 l, .string t] 34)) from bl_al (unhide HBL))
      have PA := hide (pc_new wr r l t 34)
      have LA := hide (show wr.heap.size < (wr.alloc (.cells #[.int .i64 r, .int .i64 l, .string t] 34)).heap.size by simp)
      have k1 := hide (in19 r 0 1000000)
      have k2 := hide (in19 l 0 255)
      have HOK : Hid (okP (r, l, t) = ((decide (0 ≤ r) && decide (r ≤ 1000000)) && (decide (0 ≤ l) && decide (l ≤ 255)) && decide (t.size = 32))) := rfl
      generalize (decide (0 ≤ r) && decide (r ≤ 1000000)) = b1 at *
      generalize (decide (0 ≤ l) && decide (l ≤ 255)) = b2 at *
      cases b1
      · have HE := hide (bOK_no (unhide HJ) (stepOK_bad (unhide HP) (unhide HOK)))
        go_wp2_with fail
        refine (unhide k1 _).mono ?_
        rintro e w1 ⟨rfl, rfl⟩
        go_wp2
        go_ret
        exact ⟨by rw [unhide HE]; rfl, unhide HB2⟩
      cases b2
      · have HE := hide (bOK_no (unhide HJ) (stepOK_bad (unhide HP) (unhide HOK)))
        go_wp2_with fail
        refine (unhide k1 _).mono ?_
        rintro e w1 ⟨rfl, rfl⟩
        go_wp2_with fail
        refine (unhide k2 _).mono ?_
        rintro e w1 ⟨rfl, rfl⟩
        go_wp2
        go_ret
        exact ⟨by rw [unhide HE]; rfl, unhide HB2⟩
      by_cases h32 : t.size ≠ 32
      · have HE := hide (bOK_no (unhide HJ) (stepOK_bad (unhide HP) ((unhide HOK).trans (by simp [h32]))))
        have u : ¬ ((t.size : Int) = 32) := by omega
        clear h32
        go_wp2_with fail
        refine (unhide k1 _).mono ?_
        rintro e w1 ⟨rfl, rfl⟩
        go_wp2_with fail
        refine (unhide k2 _).mono ?_
        rintro e w1 ⟨rfl, rfl⟩
        go_wp2
        go_ret
        exact ⟨by rw [unhide HE]; rfl, unhide HB2⟩
      have h32 : t.size = 32 := by omega
      have HK := hide ((unhide HOK).trans (by simp [h32]) : okP (r, l, t) = true)
      have u : (t.size : Int) = 32 := by omega
      clear h32
      rcases Nat.eq_zero_or_pos j with h0 | h0
      · subst h0
        simp only [Nat.zero_mul, Nat.add_zero] at c0 c1 c2
        have HG := hide (step_all (unhide HGD) (stepOK_zero (unhide HP) (unhide HK)))
        go_wp2_with fail
        refine (unhide k1 _).mono ?_
        rintro e w1 ⟨rfl, rfl⟩
        go_wp2_with fail
        refine (unhide k2 _).mono ?_
        rintro e w1 ⟨rfl, rfl⟩
        go_wp2
        clear c0 c1 c2
        generalize wr.alloc (.cells #[.int .i64 r, .int .i64 l, .string t] 34) = w2 at *
        refine wp_region_held (S := fun W' => Below w2.heap.size w2 W') (by kernel_rfl) ?_
        have hS0 : Below w2.heap.size w2 { w2 with drawn := w2.drawn + 1 } := below_drewN (Below.refl _ _) 1
        refine wpAnyH_take (i := 0) (oi := { dst := some 37, op := Op.move (Operand.tmp 3), type := 3, pos := "l06_board.go:136", after := #[], guard := none }) (v := ?_) rfl (by kernel_rfl) (by kernel_rfl) (by kernel_rfl) (fun _ _ _ h => h) (Or.inl ⟨by rfl, ?_⟩) hS0 ?_
        rotate_left
        · intro W hSw
          go_simp
          try with_reducible rfl
        simp only [Act.put, List.setIfInBounds_toArray, List.set_cons_zero, List.set_cons_succ]
        refine wpAnyH_take (i := 1) (oi := { dst := some 38, op := Op.binOp BinOp.gtr 3 (Operand.tmp 37) (Operand.const (Value.int IntKind.i64 0)) 3, type := 4, pos := "l06_board.go:136", after := #[{ on := 0, ground := Ground.data }], guard := none }) (v := ?_) rfl (by kernel_rfl) (by kernel_rfl) (by kernel_rfl) (fun _ _ _ h => h) (Or.inl ⟨by rfl, ?_⟩) hS0 ?_
        rotate_left
        · intro W hSw
          go_simp
          try with_reducible rfl
        simp only [Act.put, List.setIfInBounds_toArray, List.set_cons_zero, List.set_cons_succ]
        refine wpAnyH_take (i := 2) (oi := { dst := some 39, op := Op.move (Operand.tmp 38), type := 4, pos := "l06_board.go:136", after := #[{ on := 1, ground := Ground.data }], guard := none }) (v := ?_) rfl (by kernel_rfl) (by kernel_rfl) (by kernel_rfl) (fun _ _ _ h => h) (Or.inl ⟨by rfl, ?_⟩) hS0 ?_
        rotate_left
        · intro W hSw
          go_simp
          try with_reducible rfl
        simp only [Act.put, List.setIfInBounds_toArray, List.set_cons_zero, List.set_cons_succ]
        refine wpAnyH_take (i := 3) (oi := { dst := some 40, op := Op.move (Operand.tmp 0), type := 25, pos := "l06_board.go:136", after := #[{ on := 2, ground := Ground.guard }], guard := some (2, true) }) (v := undef) rfl (by kernel_rfl) (by kernel_rfl) (by kernel_rfl) (fun _ _ _ h => h) (Or.inr ⟨by rfl, rfl⟩) hS0 ?_
        simp only [Act.put, List.setIfInBounds_toArray, List.set_cons_zero, List.set_cons_succ]
        refine wpAnyH_take (i := 4) (oi := { dst := some 41, op := Op.move (Operand.tmp 3), type := 3, pos := "l06_board.go:136", after := #[{ on := 2, ground := Ground.guard }], guard := some (2, true) }) (v := undef) rfl (by kernel_rfl) (by kernel_rfl) (by kernel_rfl) (fun _ _ _ h => h) (Or.inr ⟨by rfl, rfl⟩) hS0 ?_
        simp only [Act.put, List.setIfInBounds_toArray, List.set_cons_zero, List.set_cons_succ]
        refine wpAnyH_take (i := 5) (oi := { dst := some 42, op := Op.binOp BinOp.sub 3 (Operand.tmp 41) (Operand.const (Value.int IntKind.i64 1)) 3, type := 3, pos := "l06_board.go:136", after := #[{ on := 4, ground := Ground.data }, { on := 2, ground := Ground.guard }], guard := some (2, true) }) (v := undef) rfl (by kernel_rfl) (by kernel_rfl) (by kernel_rfl) (fun _ _ _ h => h) (Or.inr ⟨by rfl, rfl⟩) hS0 ?_
        simp only [Act.put, List.setIfInBounds_toArray, List.set_cons_zero, List.set_cons_succ]
        refine wpAnyH_take (i := 6) (oi := { dst := some 43, op := Op.indexAddr 25 (Operand.tmp 40) (Operand.tmp 42), type := 0, pos := "l06_board.go:136", after := #[{ on := 3, ground := Ground.data }, { on := 5, ground := Ground.data }, { on := 2, ground := Ground.guard }], guard := some (2, true) }) (v := undef) rfl (by kernel_rfl) (by kernel_rfl) (by kernel_rfl) (fun _ _ _ h => h) (Or.inr ⟨by rfl, rfl⟩) hS0 ?_
        simp only [Act.put, List.setIfInBounds_toArray, List.set_cons_zero, List.set_cons_succ]
        refine wpAnyH_take (i := 7) (oi := { dst := some 44, op := Op.load 34 (Operand.tmp 43), type := 34, pos := "l06_board.go:136", after := #[{ on := 6, ground := Ground.data }, { on := 2, ground := Ground.guard }], guard := some (2, true) }) (v := undef) rfl (by kernel_rfl) (by kernel_rfl) (by kernel_rfl) (fun _ _ _ h => h) (Or.inr ⟨by rfl, rfl⟩) hS0 ?_
        simp only [Act.put, List.setIfInBounds_toArray, List.set_cons_zero, List.set_cons_succ]
        refine wpAnyH_take (i := 8) (oi := { dst := some 45, op := Op.load 34 (Operand.tmp 4), type := 34, pos := "l06_board.go:136", after := #[{ on := 2, ground := Ground.guard }], guard := some (2, true) }) (v := undef) rfl (by kernel_rfl) (by kernel_rfl) (by kernel_rfl) (fun _ _ _ h => h) (Or.inr ⟨by rfl, rfl⟩) hS0 ?_
        simp only [Act.put, List.setIfInBounds_toArray, List.set_cons_zero, List.set_cons_succ]
        refine wpAnyH_take (i := 9) (oi := { dst := some 46, op := Op.call { callee := Callee.value (Operand.func 20), args := #[Operand.tmp 44, Operand.tmp 45], argTypes := #[34, 34] }, type := 4, pos := "l06_board.go:136", after := #[{ on := 7, ground := Ground.data }, { on := 8, ground := Ground.data }, { on := 2, ground := Ground.chain }, { on := 2, ground := Ground.guard }], guard := some (2, true) }) (v := undef) rfl (by kernel_rfl) (by kernel_rfl) (by kernel_rfl) (fun _ _ _ h => h) (Or.inr ⟨by rfl, rfl⟩) hS0 ?_
        simp only [Act.put, List.setIfInBounds_toArray, List.set_cons_zero, List.set_cons_succ]
        refine wpAnyH_take (i := 10) (oi := { dst := some 47, op := Op.unOp UnOp.not 4 (Operand.tmp 46), type := 4, pos := "l06_board.go:136", after := #[{ on := 9, ground := Ground.data }, { on := 2, ground := Ground.guard }], guard := some (2, true) }) (v := undef) rfl (by kernel_rfl) (by kernel_rfl) (by kernel_rfl) (fun _ _ _ h => h) (Or.inr ⟨by rfl, rfl⟩) hS0 ?_
        simp only [Act.put, List.setIfInBounds_toArray, List.set_cons_zero, List.set_cons_succ]
        refine wpAnyH_take (i := 11) (oi := { dst := some 48, op := Op.pick (Operand.tmp 39) (Operand.tmp 47) (Operand.const (Value.bool false)), type := 4, pos := "l06_board.go:136", after := #[{ on := 2, ground := Ground.data }, { on := 10, ground := Ground.data }], guard := none }) (v := ?_) rfl (by kernel_rfl) (by kernel_rfl) (by kernel_rfl) (fun _ _ _ h => h) (Or.inl ⟨by rfl, ?_⟩) hS0 ?_
        rotate_left
        · intro W hSw
          go_simp
          try with_reducible rfl
        simp only [Act.put, List.setIfInBounds_toArray, List.set_cons_zero, List.set_cons_succ]
        refine wpAnyH_done (by kernel_rfl) ?_ _
        have B1 := hide (bl_st hS0 (unhide HB2))
        clear hS0
        go_wp2
        go_roundw
        case rel => exact ⟨1, unhide HJ, by first | rfl | go_num, unhide HG, unhide B1⟩
        case measure => have := unhide HJ; simp [intOf]; omega
      · obtain ⟨k, rfl⟩ : ∃ k, j = k + 1 := ⟨j - 1, by omega⟩
        have pb := ((unhide HCL) k (by have := unhide HJ; omega)).below (unhide HBB) (unhide HBL)
        have HS : Hid (∀ q, ps.getD k noP = q → stepOK ps (k + 1) = later q (r, l, t)) := fun q hq => stepOK_succ (unhide HP) hq (unhide HK)
        generalize hq : ps.getD k noP = q' at *
        obtain ⟨r', l', t'⟩ := q'
        have HST := hide (unhide HS _ rfl)
        clear hq HS
        have PB := hide (pb.below (unhide LB) (bl_al (o := .cells #[.int .i64 r, .int .i64 l, .string t] 34) (Below.refl _ _)))
        have LB := hide (show b < (wr.alloc (.cells #[.int .i64 r, .int .i64 l, .string t] 34)).heap.size by have := unhide LB; simp; omega)
        have wk : IntKind.i64.wrap (k : Int) = (k : Int) := by rw [IntKind.wrap_i64]; omega
        have k0 : (0 : Int) ≤ (k : Int) := by omega
        have kl : (k : Int) < (ps.length : Int) := by omega
        clear pb h0
        go_wp2_with fail
        refine (unhide k1 _).mono ?_
        rintro e w1 ⟨rfl, rfl⟩
        go_wp2_with fail
        refine (unhide k2 _).mono ?_
        rintro e w1 ⟨rfl, rfl⟩
        go_wp2
        clear c0 c1 c2
        generalize wr.alloc (.cells #[.int .i64 r, .int .i64 l, .string t] 34) = w2 at *
        have L20 := hide (fun W => later20 r' l' r l t' t W)
        generalize later (r', l', t') (r, l, t) = bl at *
        refine wp_region_held (S := fun W' => Below w2.heap.size w2 W') (by kernel_rfl) ?_
        have hS0 : Below w2.heap.size w2 { w2 with drawn := w2.drawn + 1 } := below_drewN (Below.refl _ _) 1
        refine wpAnyH_take (i := 0) (oi := { dst := some 37, op := Op.move (Operand.tmp 3), type := 3, pos := "l06_board.go:136", after := #[], guard := none }) (v := ?_) rfl (by kernel_rfl) (by kernel_rfl) (by kernel_rfl) (fun _ _ _ h => h) (Or.inl ⟨by rfl, ?_⟩) hS0 ?_
        rotate_left
        · intro W hSw
          obtain ⟨c0, c1, c2⟩ := (unhide PA).below (unhide LA) hSw
          obtain ⟨d0, d1, d2⟩ := (unhide PB).below (unhide LB) hSw
          dsimp only [Nat.zero_add] at c0 c1 c2 d0 d1 d2
          go_simp
          try with_reducible rfl
        simp only [Act.put, List.setIfInBounds_toArray, List.set_cons_zero, List.set_cons_succ]
        refine wpAnyH_take (i := 1) (oi := { dst := some 38, op := Op.binOp BinOp.gtr 3 (Operand.tmp 37) (Operand.const (Value.int IntKind.i64 0)) 3, type := 4, pos := "l06_board.go:136", after := #[{ on := 0, ground := Ground.data }], guard := none }) (v := ?_) rfl (by kernel_rfl) (by kernel_rfl) (by kernel_rfl) (fun _ _ _ h => h) (Or.inl ⟨by rfl, ?_⟩) hS0 ?_
        rotate_left
        · intro W hSw
          obtain ⟨c0, c1, c2⟩ := (unhide PA).below (unhide LA) hSw
          obtain ⟨d0, d1, d2⟩ := (unhide PB).below (unhide LB) hSw
          dsimp only [Nat.zero_add] at c0 c1 c2 d0 d1 d2
          go_simp
          try with_reducible rfl
        simp only [Act.put, List.setIfInBounds_toArray, List.set_cons_zero, List.set_cons_succ]
        refine wpAnyH_take (i := 2) (oi := { dst := some 39, op := Op.move (Operand.tmp 38), type := 4, pos := "l06_board.go:136", after := #[{ on := 1, ground := Ground.data }], guard := none }) (v := ?_) rfl (by kernel_rfl) (by kernel_rfl) (by kernel_rfl) (fun _ _ _ h => h) (Or.inl ⟨by rfl, ?_⟩) hS0 ?_
        rotate_left
        · intro W hSw
          obtain ⟨c0, c1, c2⟩ := (unhide PA).below (unhide LA) hSw
          obtain ⟨d0, d1, d2⟩ := (unhide PB).below (unhide LB) hSw
          dsimp only [Nat.zero_add] at c0 c1 c2 d0 d1 d2
          go_simp
          try with_reducible rfl
        simp only [Act.put, List.setIfInBounds_toArray, List.set_cons_zero, List.set_cons_succ]
        refine wpAnyH_take (i := 3) (oi := { dst := some 40, op := Op.move (Operand.tmp 0), type := 25, pos := "l06_board.go:136", after := #[{ on := 2, ground := Ground.guard }], guard := some (2, true) }) (v := ?_) rfl (by kernel_rfl) (by kernel_rfl) (by kernel_rfl) (fun _ _ _ h => h) (Or.inl ⟨by rfl, ?_⟩) hS0 ?_
        rotate_left
        · intro W hSw
          obtain ⟨c0, c1, c2⟩ := (unhide PA).below (unhide LA) hSw
          obtain ⟨d0, d1, d2⟩ := (unhide PB).below (unhide LB) hSw
          dsimp only [Nat.zero_add] at c0 c1 c2 d0 d1 d2
          go_simp
          try with_reducible rfl
        simp only [Act.put, List.setIfInBounds_toArray, List.set_cons_zero, List.set_cons_succ]
        refine wpAnyH_take (i := 4) (oi := { dst := some 41, op := Op.move (Operand.tmp 3), type := 3, pos := "l06_board.go:136", after := #[{ on := 2, ground := Ground.guard }], guard := some (2, true) }) (v := ?_) rfl (by kernel_rfl) (by kernel_rfl) (by kernel_rfl) (fun _ _ _ h => h) (Or.inl ⟨by rfl, ?_⟩) hS0 ?_
        rotate_left
        · intro W hSw
          obtain ⟨c0, c1, c2⟩ := (unhide PA).below (unhide LA) hSw
          obtain ⟨d0, d1, d2⟩ := (unhide PB).below (unhide LB) hSw
          dsimp only [Nat.zero_add] at c0 c1 c2 d0 d1 d2
          go_simp
          try with_reducible rfl
        simp only [Act.put, List.setIfInBounds_toArray, List.set_cons_zero, List.set_cons_succ]
        refine wpAnyH_take (i := 5) (oi := { dst := some 42, op := Op.binOp BinOp.sub 3 (Operand.tmp 41) (Operand.const (Value.int IntKind.i64 1)) 3, type := 3, pos := "l06_board.go:136", after := #[{ on := 4, ground := Ground.data }, { on := 2, ground := Ground.guard }], guard := some (2, true) }) (v := ?_) rfl (by kernel_rfl) (by kernel_rfl) (by kernel_rfl) (fun _ _ _ h => h) (Or.inl ⟨by rfl, ?_⟩) hS0 ?_
        rotate_left
        · intro W hSw
          obtain ⟨c0, c1, c2⟩ := (unhide PA).below (unhide LA) hSw
          obtain ⟨d0, d1, d2⟩ := (unhide PB).below (unhide LB) hSw
          dsimp only [Nat.zero_add] at c0 c1 c2 d0 d1 d2
          go_simp
          try with_reducible rfl
        simp only [Act.put, List.setIfInBounds_toArray, List.set_cons_zero, List.set_cons_succ]
        refine wpAnyH_take (i := 6) (oi := { dst := some 43, op := Op.indexAddr 25 (Operand.tmp 40) (Operand.tmp 42), type := 0, pos := "l06_board.go:136", after := #[{ on := 3, ground := Ground.data }, { on := 5, ground := Ground.data }, { on := 2, ground := Ground.guard }], guard := some (2, true) }) (v := ?_) rfl (by kernel_rfl) (by kernel_rfl) (by kernel_rfl) (fun _ _ _ h => h) (Or.inl ⟨by rfl, ?_⟩) hS0 ?_
        rotate_left
        · intro W hSw
          obtain ⟨c0, c1, c2⟩ := (unhide PA).below (unhide LA) hSw
          obtain ⟨d0, d1, d2⟩ := (unhide PB).below (unhide LB) hSw
          dsimp only [Nat.zero_add] at c0 c1 c2 d0 d1 d2
          go_simp
          try with_reducible rfl
        simp only [Act.put, List.setIfInBounds_toArray, List.set_cons_zero, List.set_cons_succ]
        refine wpAnyH_take (i := 7) (oi := { dst := some 44, op := Op.load 34 (Operand.tmp 43), type := 34, pos := "l06_board.go:136", after := #[{ on := 6, ground := Ground.data }, { on := 2, ground := Ground.guard }], guard := some (2, true) }) (v := ?_) rfl (by kernel_rfl) (by kernel_rfl) (by kernel_rfl) (fun _ _ _ h => h) (Or.inl ⟨by rfl, ?_⟩) hS0 ?_
        rotate_left
        · intro W hSw
          obtain ⟨c0, c1, c2⟩ := (unhide PA).below (unhide LA) hSw
          obtain ⟨d0, d1, d2⟩ := (unhide PB).below (unhide LB) hSw
          dsimp only [Nat.zero_add] at c0 c1 c2 d0 d1 d2
          go_simp
          try with_reducible rfl
        simp only [Act.put, List.setIfInBounds_toArray, List.set_cons_zero, List.set_cons_succ]
        refine wpAnyH_take (i := 8) (oi := { dst := some 45, op := Op.load 34 (Operand.tmp 4), type := 34, pos := "l06_board.go:136", after := #[{ on := 2, ground := Ground.guard }], guard := some (2, true) }) (v := ?_) rfl (by kernel_rfl) (by kernel_rfl) (by kernel_rfl) (fun _ _ _ h => h) (Or.inl ⟨by rfl, ?_⟩) hS0 ?_
        rotate_left
        · intro W hSw
          obtain ⟨c0, c1, c2⟩ := (unhide PA).below (unhide LA) hSw
          obtain ⟨d0, d1, d2⟩ := (unhide PB).below (unhide LB) hSw
          dsimp only [Nat.zero_add] at c0 c1 c2 d0 d1 d2
          go_simp
          try with_reducible rfl
        simp only [Act.put, List.setIfInBounds_toArray, List.set_cons_zero, List.set_cons_succ]
        refine wpAnyH_one (i := 9) (by kernel_rfl) ?_
        refine wpOp_step (o := { dst := some 46, op := Op.call { callee := Callee.value (Operand.func 20), args := #[Operand.tmp 44, Operand.tmp 45], argTypes := #[34, 34] }, type := 4, pos := "l06_board.go:136", after := #[{ on := 7, ground := Ground.data }, { on := 8, ground := Ground.data }, { on := 2, ground := Ground.chain }, { on := 2, ground := Ground.guard }], guard := some (2, true) }) rfl fun K' hK => step_enterW (by rfl) 20 #[postV (r', l', t'), postV (r, l, t)] (by go_simp) ((unhide L20 _).mono ?_)
        rintro e w3 ⟨rfl, b1⟩
        have s1 := bl_st b1 hS0
        clear b1
        refine ⟨_, rfl, hK _ _ ⟨s1, ?_⟩⟩
        simp only [Act.put, List.setIfInBounds_toArray, List.set_cons_zero, List.set_cons_succ]
        refine wpAnyH_take (i := 10) (oi := { dst := some 47, op := Op.unOp UnOp.not 4 (Operand.tmp 46), type := 4, pos := "l06_board.go:136", after := #[{ on := 9, ground := Ground.data }, { on := 2, ground := Ground.guard }], guard := some (2, true) }) (v := ?_) rfl (by kernel_rfl) (by kernel_rfl) (by kernel_rfl) (fun _ _ _ h => h) (Or.inl ⟨by rfl, ?_⟩) s1 ?_
        rotate_left
        · intro W hSw
          obtain ⟨c0, c1, c2⟩ := (unhide PA).below (unhide LA) hSw
          obtain ⟨d0, d1, d2⟩ := (unhide PB).below (unhide LB) hSw
          dsimp only [Nat.zero_add] at c0 c1 c2 d0 d1 d2
          go_simp
          try with_reducible rfl
        simp only [Act.put, List.setIfInBounds_toArray, List.set_cons_zero, List.set_cons_succ]
        refine wpAnyH_take (i := 11) (oi := { dst := some 48, op := Op.pick (Operand.tmp 39) (Operand.tmp 47) (Operand.const (Value.bool false)), type := 4, pos := "l06_board.go:136", after := #[{ on := 2, ground := Ground.data }, { on := 10, ground := Ground.data }], guard := none }) (v := ?_) rfl (by kernel_rfl) (by kernel_rfl) (by kernel_rfl) (fun _ _ _ h => h) (Or.inl ⟨by rfl, ?_⟩) s1 ?_
        rotate_left
        · intro W hSw
          obtain ⟨c0, c1, c2⟩ := (unhide PA).below (unhide LA) hSw
          obtain ⟨d0, d1, d2⟩ := (unhide PB).below (unhide LB) hSw
          dsimp only [Nat.zero_add] at c0 c1 c2 d0 d1 d2
          go_simp
          try with_reducible rfl
        simp only [Act.put, List.setIfInBounds_toArray, List.set_cons_zero, List.set_cons_succ]
        refine wpAnyH_done (by kernel_rfl) ?_ _
        have B1 := hide (bl_st s1 (unhide HB2))
        clear s1 hS0
        cases bl
        · have HE := hide (bOK_no (unhide HJ) (unhide HST))
          go_wp2
          go_ret
          exact ⟨by rw [unhide HE]; rfl, unhide B1⟩
        · have HG := hide (step_all (unhide HGD) (unhide HST))
          go_wp2
          go_roundw
          case rel => exact ⟨k + 1 + 1, unhide HJ, by go_num, unhide HG, unhide B1⟩
          case measure => have := unhide HJ; simp [intOf]; omega
    · obtain rfl : j = ps.length := by omega
      have HE := hide (bOK_yes (unhide H64) (unhide HGD))
      clear hlt HGD
      go_wp2
      go_ret
      exact ⟨by rw [unhide HE]; rfl, unhide HBL⟩
end Go.Proofs.Ytgjkflhpnppkbaa
