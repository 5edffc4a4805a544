/- BoardAdd, as the specification has it. -/
import Derived.Test.YtgjkflhpnppkbaaBrdI
import Derived.Test.YtgjkflhpnppkbaaApp
namespace Go.Proofs.Ytgjkflhpnppkbaa
open Go.RowKit
set_option maxHeartbeats 4000000
set_option maxRecDepth 20000
def lastP (ps : List Pst) : Pst := ps.getD (ps.length - 1) noP
/-- what is added to a board, and the code -/
def aR (ps : List Pst) (p : Pst) : List Pst × Int :=
  if 4096 < ps.length then ([], 2) else if bOK ps = false then ([], 1) else if okP p = false then ([], 1) else if 0 < ps.length ∧ later (lastP ps) p = false then ([], 13) else if ps.length = 64 then ([], 7) else (ps ++ [p], 0)
theorem bOK_one (p : Pst) : bOK [p] = okP p := by
  unfold bOK stepOK
  simp
theorem posts_one {w : World} {g : Nat} {r l : Int} {t : ByteArray} {ty : TypeId} {fr : Nat × Nat} (h : w.heap[g]? = some (.cells #[.int .i64 r, .int .i64 l, .string t] ty fr)) : postsV w (.slice (some ⟨g, 0, none⟩) 1 1) [(r, l, t)] :=
  ⟨_, _, rfl, fun _ => ⟨g, 0, rfl, (Array.getElem?_eq_some_iff.1 h).1, fun i hi => by
    obtain rfl : i = 0 := by simpa using hi
    refine ⟨?_, ?_, ?_⟩ <;> rw [Go.cell_of_row _ _ _ _ _ _ h] <;> rfl⟩⟩
theorem posts_last {w : World} {b off : Nat} {ps : List Pst} (h0 : 0 < ps.length) (h : ∀ i, i < ps.length → PC b (off + i * 3) (ps.getD i noP) w) : PC b (off + (ps.length - 1) * 3) (lastP ps) w := h _ (by omega)
section
variable {ps : List Pst} {p : Pst}
theorem aR_a (h : 4096 < ps.length) : aR ps p = ([], 2) := by unfold aR; rw [if_pos h]
theorem aR_b (h : ps.length ≤ 4096) (hb : bOK ps = false) : aR ps p = ([], 1) := by unfold aR; rw [if_neg (by omega), if_pos hb]
theorem aR_c (h : ps.length ≤ 4096) (hb : bOK ps = true) (hk : okP p = false) : aR ps p = ([], 1) := by unfold aR; rw [if_neg (by omega), if_neg (by rw [hb]; decide), if_pos hk]
theorem aR_d (h : ps.length ≤ 4096) (hb : bOK ps = true) (hk : okP p = true) (h0 : 0 < ps.length) (hl : later (lastP ps) p = false) : aR ps p = ([], 13) := by
  unfold aR; rw [if_neg (by omega), if_neg (by rw [hb]; decide), if_neg (by rw [hk]; decide), if_pos ⟨h0, hl⟩]
theorem aR_e (_ : ps.length ≤ 4096) (hb : bOK ps = true) (hk : okP p = true) (hl : later (lastP ps) p = true) (h6 : ps.length = 64) : aR ps p = ([], 7) := by
  unfold aR; rw [if_neg (by omega), if_neg (by rw [hb]; decide), if_neg (by rw [hk]; decide), if_neg (by rw [hl]; simp), if_pos h6]
theorem aR_f (h : ps.length ≤ 4096) (hb : bOK ps = true) (hk : okP p = true) (hl : ps.length = 0 ∨ later (lastP ps) p = true) (h6 : ps.length ≠ 64) : aR ps p = (ps ++ [p], 0) := by
  unfold aR; rw [if_neg (by omega), if_neg (by rw [hb]; decide), if_neg (by rw [hk]; decide), if_neg (by rcases hl with h1 | h1 <;> simp [h1]), if_neg h6]
end
theorem own_empty {W : World} {B : Nat} (h : B ≤ W.heap.size) : ownP B (W.alloc (.cells #[] 34)).heap.size (W.alloc (.cells #[] 34)) (.slice (some ⟨W.heap.size, 0, none⟩) 0 0) [] :=
  .inr ⟨W.heap.size, 0, [], rfl, h, by simp, heap_at _ _ _ rfl, Nat.le_refl _⟩
theorem own_below {w w' : World} {base n : Nat} {v : Value} {xs : List Value} (h : w.ownsRow base 34 3 v n xs) (hb : Below w.heap.size w w') : w'.ownsRow base 34 3 v n xs := by
  rcases h with ⟨hl, h | ⟨g, cap, cur, hv, hb', hg, hc⟩⟩
  · exact ⟨hl, .inl h⟩
  · exact ⟨hl, .inr ⟨g, cap, cur, hv, hb', (hb.block g (Array.getElem?_eq_some_iff.1 hg).1).trans hg, hc⟩⟩
theorem own_new (X : World) {base : Nat} (h : base ≤ X.heap.size) : (X.alloc (.cells #[] 34)).ownsRow base 34 3 (.slice (some ⟨X.heap.size, 0, none⟩) 0 0) 0 (flatP []) :=
  ⟨rfl, .inr ⟨X.heap.size, 0, #[], rfl, h, heap_at _ _ _ rfl, Nat.le_refl _, Nat.zero_le _, rfl, rfl⟩⟩
theorem postsV.grown {w w' : World} {g n c : Nat} {row : Option Nat} {ps : List Pst} (h : postsV w (.slice (some ⟨g, 0, none⟩) n c) ps) (hg : w.grownBy w' row) (hr : row ≠ some g) : postsV w' (.slice (some ⟨g, 0, none⟩) n c) ps := by
  obtain ⟨A, cap, e, hc⟩ := h
  simp only [Value.slice.injEq] at e
  obtain ⟨rfl, rfl, rfl⟩ := e
  refine ⟨_, _, rfl, fun h0 => ?_⟩
  obtain ⟨b, off, e, hl, hc⟩ := hc h0
  simp only [Option.some.injEq, Addr.mk.injEq, and_true] at e
  obtain ⟨rfl, rfl⟩ := e
  refine ⟨g, 0, rfl, Nat.lt_of_lt_of_le hl hg.size, fun i hi => ?_⟩
  have hh := hg.block g hl (fun e => hr e.symm)
  obtain ⟨c0, c1, c2⟩ := hc i hi
  refine ⟨?_, ?_, ?_⟩
  · rw [← c0]; exact World.cell?_of_block hh
  · rw [← c1]; exact World.cell?_of_block hh
  · rw [← c2]; exact World.cell?_of_block hh
theorem below_grown {B : Nat} {a w w' : World} {v : Value} {n : Nat} {xs : List Value} (h : Below B a w) (hg : w.grownBy w' v.ownBlock) (hs : B ≤ w.heap.size) (ho : w.ownsRow B 34 3 v n xs) : Below B a w' :=
  Below.grown h hg hs fun k' hk' => (ho.lt k' hk').1
theorem add12 (v : Value) (ps : List Pst) (r l : Int) (t : ByteArray) (w : World) (hv : postsV w v ps) (hl : ps.length ≤ 2097152) :
    Calls Try.prog 12 #[v, postV (r, l, t)] w fun e w' => ∃ u, e = .returned (.tuple #[u, .int .i64 (aR ps (r, l, t)).2]) ∧ ownP w.heap.size w'.heap.size w' u (aR ps (r, l, t)).1 ∧ Below w.heap.size w w' := by
  have B0 := hide (show Below w.heap.size w (w.alloc (.cells #[.int .i64 r, .int .i64 l, .string t] 34)) from bl_al (Below.refl _ _))
  have V0 := hide (hv.below (unhide B0))
  have P0 := hide (pc_new w r l t 34)
  have L0 := hide (show w.heap.size < (w.alloc (.cells #[.int .i64 r, .int .i64 l, .string t] 34)).heap.size by simp)
  have S0 := hide (show w.heap.size ≤ (w.alloc (.cells #[.int .i64 r, .int .i64 l, .string t] 34)).heap.size by simp)
  obtain ⟨A, cap, rfl, x0⟩ := hv
  clear x0
  have n0 : (0 : Int) ≤ (ps.length : Int) := by omega
  have n1 : (ps.length : Int) ≤ 2097152 := by omega
  have H7 : Hid (∀ u W, postsV W u ps → Calls Try.prog 7 #[u] W fun e w' => e = .returned (.bool (bOK ps)) ∧ Below W.heap.size W w') := hide fun u W hu => bo7 u ps W hu hl
  have H1 : Hid (∀ u W, postsV W u [(r, l, t)] → Calls Try.prog 7 #[u] W fun e w' => e = .returned (.bool (okP (r, l, t))) ∧ Below W.heap.size W w') := hide fun u W hu => by
    have := bo7 u [(r, l, t)] W hu (by simp)
    rw [bOK_one] at this
    exact this
  by_cases h4 : 4096 < ps.length
  · have q : (4096 : Int) < (ps.length : Int) := by omega
    rw [aR_a h4]
    clear h4 hl H7 H1
    go_enter Try.func12, Try.ntmps12
    go_wp2
    go_ret2
    refine ⟨_, rfl, ?_, bl_al (unhide B0)⟩
    have := own_empty (unhide S0)
    rw [show (w.alloc (.cells #[.int .i64 r, .int .i64 l, .string t] 34)).heap.size = w.heap.size + 1 by simp] at this
    exact this
  have q4 : (ps.length : Int) ≤ 4096 := by omega
  have HL := hide (show ps.length ≤ 4096 by omega)
  clear h4 hl
  rcases hb : bOK ps
  · rw [aR_b (unhide HL) hb]
    rw [hb] at H7
    clear hb
    go_enter Try.func12, Try.ntmps12
    go_wp2_with fail
    generalize w.alloc (.cells #[.int .i64 r, .int .i64 l, .string t] 34) = w0 at *
    refine (unhide H7 _ _ (unhide V0)).mono ?_
    rintro e w1 ⟨rfl, b1⟩
    have B1 := hide (bl_st b1 (unhide B0))
    clear b1
    go_wp2
    go_ret2
    exact ⟨_, rfl, own_empty (unhide B1).size, bl_al (unhide B1)⟩
  rw [hb] at H7
  have HB := hide hb
  clear hb
  rcases hk : okP (r, l, t)
  · rw [aR_c (unhide HL) (unhide HB) hk]
    rw [hk] at H1
    clear hk
    go_enter Try.func12, Try.ntmps12
    go_wp2_with fail
    generalize w.alloc (.cells #[.int .i64 r, .int .i64 l, .string t] 34) = w0 at *
    refine (unhide H7 _ _ (unhide V0)).mono ?_
    rintro e w1 ⟨rfl, b1⟩
    have B1 := hide (bl_st b1 (unhide B0))
    have V1 := hide ((unhide V0).below b1)
    have P1 := hide ((unhide P0).below (unhide L0) b1)
    have L1 := hide (Nat.lt_of_lt_of_le (unhide L0) b1.size)
    clear b1 H7 B0 V0 P0 L0 S0
    obtain ⟨c0, c1, c2⟩ := unhide P1
    dsimp only [Nat.zero_add] at c0 c1 c2
    go_wp2_with fail
    have b2 : Below w1.heap.size w1 (w1.alloc (.cells #[.int .i64 r, .int .i64 l, .string t] 34)) := bl_al (Below.refl _ _)
    have B2 := hide (bl_st b2 (unhide B1))
    have V2 := hide ((unhide V1).below b2)
    have P2 := hide ((unhide P1).below (unhide L1) b2)
    have L2 := hide (Nat.lt_of_lt_of_le (unhide L1) b2.size)
    have U2 := hide (posts_one (heap_at w1 (.cells #[.int .i64 r, .int .i64 l, .string t] 34) _ rfl))
    clear b2 B1 V1 P1 L1 c0 c1 c2
    generalize w1.alloc (.cells #[.int .i64 r, .int .i64 l, .string t] 34) = w2 at *
    refine (unhide H1 _ _ (unhide U2)).mono ?_
    rintro e w5 ⟨rfl, b3⟩
    have B5 := hide (bl_st b3 (unhide B2))
    have V5 := hide ((unhide V2).below b3)
    have PA := hide ((unhide P2).below (unhide L2) b3)
    have LA := hide (Nat.lt_of_lt_of_le (unhide L2) b3.size)
    clear b3 B2 V2 P2 L2 U2 H1
    go_wp2
    go_ret2
    exact ⟨_, rfl, own_empty (unhide B5).size, bl_al (unhide B5)⟩
  rw [hk] at H1
  have HK := hide hk
  clear hk
  go_enter Try.func12, Try.ntmps12
  go_wp2_with fail
  generalize w.alloc (.cells #[.int .i64 r, .int .i64 l, .string t] 34) = w0 at *
  refine (unhide H7 _ _ (unhide V0)).mono ?_
  rintro e w1 ⟨rfl, b1⟩
  have B1 := hide (bl_st b1 (unhide B0))
  have V1 := hide ((unhide V0).below b1)
  have P1 := hide ((unhide P0).below (unhide L0) b1)
  have L1 := hide (Nat.lt_of_lt_of_le (unhide L0) b1.size)
  clear b1 H7 B0 V0 P0 L0 S0
  obtain ⟨c0, c1, c2⟩ := unhide P1
  dsimp only [Nat.zero_add] at c0 c1 c2
  go_wp2_with fail
  have b2 : Below w1.heap.size w1 (w1.alloc (.cells #[.int .i64 r, .int .i64 l, .string t] 34)) := bl_al (Below.refl _ _)
  have B2 := hide (bl_st b2 (unhide B1))
  have V2 := hide ((unhide V1).below b2)
  have P2 := hide ((unhide P1).below (unhide L1) b2)
  have L2 := hide (Nat.lt_of_lt_of_le (unhide L1) b2.size)
  have U2 := hide (posts_one (heap_at w1 (.cells #[.int .i64 r, .int .i64 l, .string t] 34) _ rfl))
  clear b2 B1 V1 P1 L1 c0 c1 c2
  generalize w1.alloc (.cells #[.int .i64 r, .int .i64 l, .string t] 34) = w2 at *
  refine (unhide H1 _ _ (unhide U2)).mono ?_
  rintro e w5 ⟨rfl, b3⟩
  have B5 := hide (bl_st b3 (unhide B2))
  have V5 := hide ((unhide V2).below b3)
  have PA := hide ((unhide P2).below (unhide L2) b3)
  have LA := hide (Nat.lt_of_lt_of_le (unhide L2) b3.size)
  clear b3 B2 V2 P2 L2 U2 H1
  rcases Nat.eq_zero_or_pos ps.length with e0 | h0
  · have HR := hide (aR_f (unhide HL) (unhide HB) (unhide HK) (.inl e0) (show ps.length ≠ 64 by omega))
    have z : decide (0 < ps.length) = false := decide_eq_false (by omega)
    have z2 : ¬ ((ps.length : Int) = 64) := by omega
    clear e0
    go_wp2
    refine wp_region_held (S := fun W' => Below w5.heap.size w5 W') (by kernel_rfl) ?_
    have hS0 : Below w5.heap.size w5 { w5 with drawn := w5.drawn + 1 } := below_drewN (Below.refl _ _) 1
    refine wpAnyH_take (i := 0) (oi := { dst := some 20, op := Op.move (Operand.tmp 0), type := 25, pos := "l06_board.go:154", after := #[], guard := none }) (v := ?_) rfl (by kernel_rfl) (by kernel_rfl) (by kernel_rfl) (fun _ _ _ h => h) (Or.inl ⟨by rfl, ?_⟩) hS0 ?_
    rotate_left
    · intro W hSw
      go_simp
      try with_reducible rfl
    simp only [Act.put, List.setIfInBounds_toArray, List.set_cons_zero, List.set_cons_succ]
    refine wpAnyH_take (i := 1) (oi := { dst := some 21, op := Op.call { callee := Callee.builtin Builtin.len, args := #[Operand.tmp 20], argTypes := #[25] }, type := 3, pos := "l06_board.go:154", after := #[{ on := 0, ground := Ground.data }], guard := none }) (v := ?_) rfl (by kernel_rfl) (by kernel_rfl) (by kernel_rfl) (fun _ _ _ h => h) (Or.inl ⟨by rfl, ?_⟩) hS0 ?_
    rotate_left
    · intro W hSw
      go_simp
      try with_reducible rfl
    simp only [Act.put, List.setIfInBounds_toArray, List.set_cons_zero, List.set_cons_succ]
    refine wpAnyH_take (i := 2) (oi := { dst := some 22, op := Op.binOp BinOp.gtr 3 (Operand.tmp 21) (Operand.const (Value.int IntKind.i64 0)) 3, type := 4, pos := "l06_board.go:154", after := #[{ on := 1, ground := Ground.data }], guard := none }) (v := ?_) rfl (by kernel_rfl) (by kernel_rfl) (by kernel_rfl) (fun _ _ _ h => h) (Or.inl ⟨by rfl, ?_⟩) hS0 ?_
    rotate_left
    · intro W hSw
      go_simp
      try with_reducible rfl
    simp only [Act.put, List.setIfInBounds_toArray, List.set_cons_zero, List.set_cons_succ]
    refine wpAnyH_take (i := 3) (oi := { dst := some 23, op := Op.move (Operand.tmp 22), type := 4, pos := "l06_board.go:154", after := #[{ on := 2, ground := Ground.data }], guard := none }) (v := ?_) rfl (by kernel_rfl) (by kernel_rfl) (by kernel_rfl) (fun _ _ _ h => h) (Or.inl ⟨by rfl, ?_⟩) hS0 ?_
    rotate_left
    · intro W hSw
      go_simp
      try with_reducible rfl
    simp only [Act.put, List.setIfInBounds_toArray, List.set_cons_zero, List.set_cons_succ]
    try simp only [z]
    refine wpAnyH_take (i := 4) (oi := { dst := some 24, op := Op.move (Operand.tmp 0), type := 25, pos := "l06_board.go:154", after := #[{ on := 3, ground := Ground.guard }], guard := some (3, true) }) (v := undef) rfl (by kernel_rfl) (by kernel_rfl) (by kernel_rfl) (fun _ _ _ h => h) (Or.inr ⟨by rfl, rfl⟩) hS0 ?_
    simp only [Act.put, List.setIfInBounds_toArray, List.set_cons_zero, List.set_cons_succ]
    refine wpAnyH_take (i := 5) (oi := { dst := some 25, op := Op.move (Operand.tmp 0), type := 25, pos := "l06_board.go:154", after := #[{ on := 3, ground := Ground.guard }], guard := some (3, true) }) (v := undef) rfl (by kernel_rfl) (by kernel_rfl) (by kernel_rfl) (fun _ _ _ h => h) (Or.inr ⟨by rfl, rfl⟩) hS0 ?_
    simp only [Act.put, List.setIfInBounds_toArray, List.set_cons_zero, List.set_cons_succ]
    refine wpAnyH_take (i := 6) (oi := { dst := some 26, op := Op.call { callee := Callee.builtin Builtin.len, args := #[Operand.tmp 25], argTypes := #[25] }, type := 3, pos := "l06_board.go:154", after := #[{ on := 5, ground := Ground.data }, { on := 3, ground := Ground.guard }], guard := some (3, true) }) (v := undef) rfl (by kernel_rfl) (by kernel_rfl) (by kernel_rfl) (fun _ _ _ h => h) (Or.inr ⟨by rfl, rfl⟩) hS0 ?_
    simp only [Act.put, List.setIfInBounds_toArray, List.set_cons_zero, List.set_cons_succ]
    refine wpAnyH_take (i := 7) (oi := { dst := some 27, op := Op.binOp BinOp.sub 3 (Operand.tmp 26) (Operand.const (Value.int IntKind.i64 1)) 3, type := 3, pos := "l06_board.go:154", after := #[{ on := 6, ground := Ground.data }, { on := 3, ground := Ground.guard }], guard := some (3, true) }) (v := undef) rfl (by kernel_rfl) (by kernel_rfl) (by kernel_rfl) (fun _ _ _ h => h) (Or.inr ⟨by rfl, rfl⟩) hS0 ?_
    simp only [Act.put, List.setIfInBounds_toArray, List.set_cons_zero, List.set_cons_succ]
    refine wpAnyH_take (i := 8) (oi := { dst := some 28, op := Op.indexAddr 25 (Operand.tmp 24) (Operand.tmp 27), type := 0, pos := "l06_board.go:154", after := #[{ on := 4, ground := Ground.data }, { on := 7, ground := Ground.data }, { on := 3, ground := Ground.guard }], guard := some (3, true) }) (v := undef) rfl (by kernel_rfl) (by kernel_rfl) (by kernel_rfl) (fun _ _ _ h => h) (Or.inr ⟨by rfl, rfl⟩) hS0 ?_
    simp only [Act.put, List.setIfInBounds_toArray, List.set_cons_zero, List.set_cons_succ]
    refine wpAnyH_take (i := 9) (oi := { dst := some 29, op := Op.load 34 (Operand.tmp 28), type := 34, pos := "l06_board.go:154", after := #[{ on := 8, ground := Ground.data }, { on := 3, ground := Ground.guard }], guard := some (3, true) }) (v := undef) rfl (by kernel_rfl) (by kernel_rfl) (by kernel_rfl) (fun _ _ _ h => h) (Or.inr ⟨by rfl, rfl⟩) hS0 ?_
    simp only [Act.put, List.setIfInBounds_toArray, List.set_cons_zero, List.set_cons_succ]
    refine wpAnyH_take (i := 10) (oi := { dst := some 30, op := Op.load 34 (Operand.tmp 3), type := 34, pos := "l06_board.go:154", after := #[{ on := 3, ground := Ground.guard }], guard := some (3, true) }) (v := undef) rfl (by kernel_rfl) (by kernel_rfl) (by kernel_rfl) (fun _ _ _ h => h) (Or.inr ⟨by rfl, rfl⟩) hS0 ?_
    simp only [Act.put, List.setIfInBounds_toArray, List.set_cons_zero, List.set_cons_succ]
    refine wpAnyH_take (i := 11) (oi := { dst := some 31, op := Op.call { callee := Callee.value (Operand.func 20), args := #[Operand.tmp 29, Operand.tmp 30], argTypes := #[34, 34] }, type := 4, pos := "l06_board.go:154", after := #[{ on := 9, ground := Ground.data }, { on := 10, ground := Ground.data }, { on := 3, ground := Ground.chain }, { on := 3, ground := Ground.guard }], guard := some (3, true) }) (v := undef) rfl (by kernel_rfl) (by kernel_rfl) (by kernel_rfl) (fun _ _ _ h => h) (Or.inr ⟨by rfl, rfl⟩) hS0 ?_
    simp only [Act.put, List.setIfInBounds_toArray, List.set_cons_zero, List.set_cons_succ]
    refine wpAnyH_take (i := 12) (oi := { dst := some 32, op := Op.unOp UnOp.not 4 (Operand.tmp 31), type := 4, pos := "l06_board.go:154", after := #[{ on := 11, ground := Ground.data }, { on := 3, ground := Ground.guard }], guard := some (3, true) }) (v := undef) rfl (by kernel_rfl) (by kernel_rfl) (by kernel_rfl) (fun _ _ _ h => h) (Or.inr ⟨by rfl, rfl⟩) hS0 ?_
    simp only [Act.put, List.setIfInBounds_toArray, List.set_cons_zero, List.set_cons_succ]
    refine wpAnyH_take (i := 13) (oi := { dst := some 33, op := Op.pick (Operand.tmp 23) (Operand.tmp 32) (Operand.const (Value.bool false)), type := 4, pos := "l06_board.go:154", after := #[{ on := 3, ground := Ground.data }, { on := 12, ground := Ground.data }], guard := none }) (v := ?_) rfl (by kernel_rfl) (by kernel_rfl) (by kernel_rfl) (fun _ _ _ h => h) (Or.inl ⟨by rfl, ?_⟩) hS0 ?_
    rotate_left
    · intro W hSw
      go_simp
      try with_reducible rfl
    simp only [Act.put, List.setIfInBounds_toArray, List.set_cons_zero, List.set_cons_succ]
    refine wpAnyH_done (by kernel_rfl) ?_ _
    have B6 := hide (bl_st hS0 (unhide B5))
    have V6 := hide ((unhide V5).below hS0)
    have P6 := hide ((unhide PA).below (unhide LA) hS0)
    have L6 := hide (Nat.lt_of_lt_of_le (unhide LA) hS0.size)
    clear hS0
    generalize ({ w5 with drawn := w5.drawn + 1 } : World) = w6 at *
    clear PA LA V5 B5
    go_wp2
    refine wp_region_held (S := fun W' => Below w6.heap.size w6 W') (by kernel_rfl) ?_
    have hS0 : Below w6.heap.size w6 { w6 with drawn := w6.drawn + 1 } := below_drewN (Below.refl _ _) 1
    refine wpAnyH_take (i := 1) (oi := { dst := some 40, op := Op.move (Operand.tmp 0), type := 25, pos := "l06_board.go:160", after := #[], guard := none }) (v := ?_) rfl (by kernel_rfl) (by kernel_rfl) (by kernel_rfl) (fun _ _ _ h => h) (Or.inl ⟨by rfl, ?_⟩) hS0 ?_
    rotate_left
    · intro W hSw
      obtain ⟨c0, c1, c2⟩ := (unhide P6).below (unhide L6) hSw
      dsimp only [Nat.zero_add] at c0 c1 c2
      go_simp
      try with_reducible rfl
    simp only [Act.put, List.setIfInBounds_toArray, List.set_cons_zero, List.set_cons_succ]
    refine wpAnyH_take (i := 3) (oi := { dst := some 42, op := Op.load 34 (Operand.tmp 3), type := 34, pos := "l06_board.go:160", after := #[], guard := none }) (v := ?_) rfl (by kernel_rfl) (by kernel_rfl) (by kernel_rfl) (fun _ _ _ h => h) (Or.inl ⟨by rfl, ?_⟩) hS0 ?_
    rotate_left
    · intro W hSw
      obtain ⟨c0, c1, c2⟩ := (unhide P6).below (unhide L6) hSw
      dsimp only [Nat.zero_add] at c0 c1 c2
      go_simp
      try with_reducible rfl
    simp only [Act.put, List.setIfInBounds_toArray, List.set_cons_zero, List.set_cons_succ]
    generalize ({ w6 with drawn := w6.drawn + 1 } : World) = w7 at *
    refine wpAnyH_two (i := 0) (j := 4) (by kernel_rfl) ?_ ?_
    · have sx0 : Below w6.heap.size w6 ((w7).alloc (.cells #[] 34)) := bl_al hS0
      have Ox0 := hide (own_new (w7) (hS0).size)
      have fx0 : Below (w7).heap.size (w7) ((w7).alloc (.cells #[] 34)) := bl_al (Below.refl _ _)
      refine wpOp_step (o := { dst := some 39, op := Op.buildSlice 25 0 #[], type := 25, pos := "l06_board.go:160", after := #[], guard := none }) rfl fun K' hK => step_valueW (by rfl) (.slice (some ⟨(w7).heap.size, 0, none⟩) 0 0) ((w7).alloc (.cells #[] 34)) (by go_simp) ?_
      refine hK _ _ ⟨sx0, ?_⟩
      simp only [Act.put, List.setIfInBounds_toArray, List.set_cons_zero, List.set_cons_succ]
      have LX : w7.heap.size < ((w7).alloc (.cells #[] 34)).heap.size := by simp
      generalize (w7).alloc (.cells #[] 34) = x0 at *
      refine wpAnyH_two (i := 2) (j := 4) (by kernel_rfl) ?_ ?_
      · refine wpOp_step (o := { dst := some 41, op := Op.call { callee := Callee.builtin Builtin.append, args := #[Operand.tmp 39, Operand.tmp 40], argTypes := #[25, 25] }, type := 25, pos := "l06_board.go:160", after := #[{ on := 0, ground := Ground.data }, { on := 1, ground := Ground.data }], guard := none }) rfl fun K' hK => step_append_posts x0 rfl _ _ rfl w6.heap.size 0 _ [] rfl (unhide Ox0) ⟨_, _, rfl⟩ _ ps rfl ((unhide V6).below sx0) (by have := unhide HL; omega) (sx0).size ?_
        intro gx1 cx1 x1 ox1 grx1
        have sx1 : Below w6.heap.size w6 x1 := below_grown sx0 grx1 (sx0).size (unhide Ox0)
        refine hK _ _ ⟨sx1, ?_⟩
        simp only [Act.put, List.setIfInBounds_toArray, List.set_cons_zero, List.set_cons_succ]
        refine wpAnyH_one (i := 4) (by kernel_rfl) ?_
        have sx2 : Below w6.heap.size w6 ((x1).alloc (.cells #[.int .i64 r, .int .i64 l, .string t] 34)) := bl_al sx1
        have Ux2 := hide (posts_one (heap_at (x1) (.cells #[.int .i64 r, .int .i64 l, .string t] 34) _ rfl))
        have fx2 : Below (x1).heap.size (x1) ((x1).alloc (.cells #[.int .i64 r, .int .i64 l, .string t] 34)) := bl_al (Below.refl _ _)
        refine wpOp_step (o := { dst := some 43, op := Op.buildSlice 25 1 #[(0, Operand.tmp 42)], type := 25, pos := "l06_board.go:160", after := #[{ on := 3, ground := Ground.data }], guard := none }) rfl fun K' hK => step_valueW (by rfl) (.slice (some ⟨(x1).heap.size, 0, none⟩) 1 1) ((x1).alloc (.cells #[.int .i64 r, .int .i64 l, .string t] 34)) (by go_simp) ?_
        refine hK _ _ ⟨sx2, ?_⟩
        simp only [Act.put, List.setIfInBounds_toArray, List.set_cons_zero, List.set_cons_succ]
        generalize (x1).alloc (.cells #[.int .i64 r, .int .i64 l, .string t] 34) = x2 at *
        refine wpAnyH_one (i := 5) (by kernel_rfl) ?_
        refine wpOp_step (o := { dst := some 44, op := Op.call { callee := Callee.builtin Builtin.append, args := #[Operand.tmp 41, Operand.tmp 43], argTypes := #[25, 25] }, type := 25, pos := "l06_board.go:160", after := #[{ on := 2, ground := Ground.data }, { on := 4, ground := Ground.data }, { on := 2, ground := Ground.chain }], guard := none }) rfl fun K' hK => step_append_posts x2 rfl _ _ rfl w6.heap.size (0 + ps.length) _ ([] ++ ps) rfl (own_below ox1 fx2) ⟨_, _, rfl⟩ _ [(r, l, t)] rfl (unhide Ux2) (by have := unhide HL; simp; omega) (sx2).size ?_
        intro gx3 cx3 x3 ox3 grx3
        have sx3 : Below w6.heap.size w6 x3 := below_grown sx2 grx3 (sx2).size (own_below ox1 fx2)
        refine hK _ _ ⟨sx3, ?_⟩
        simp only [Act.put, List.setIfInBounds_toArray, List.set_cons_zero, List.set_cons_succ]
        refine wpAnyH_take (i := 6) (oi := { dst := some 4, op := Op.assign (Operand.tmp 44), type := 25, pos := "l06_board.go:160", after := #[{ on := 5, ground := Ground.data }, { on := 5, ground := Ground.chain }, { on := 0, ground := Ground.phase }, { on := 1, ground := Ground.phase }, { on := 2, ground := Ground.phase }, { on := 3, ground := Ground.phase }, { on := 4, ground := Ground.phase }, { on := 5, ground := Ground.phase }], guard := none }) (v := ?_) rfl (by kernel_rfl) (by kernel_rfl) (by kernel_rfl) (fun _ _ _ h => h) (Or.inl ⟨by rfl, ?_⟩) sx3 ?_
        rotate_left
        · intro W hSw
          go_simp
          try with_reducible rfl
        simp only [Act.put, List.setIfInBounds_toArray, List.set_cons_zero, List.set_cons_succ]
        refine wpAnyH_take (i := 7) (oi := { dst := some 5, op := Op.assign (Operand.const (Value.int IntKind.i64 0)), type := 3, pos := "l06_board.go:160", after := #[{ on := 6, ground := Ground.chain }, { on := 0, ground := Ground.phase }, { on := 1, ground := Ground.phase }, { on := 2, ground := Ground.phase }, { on := 3, ground := Ground.phase }, { on := 4, ground := Ground.phase }, { on := 5, ground := Ground.phase }, { on := 6, ground := Ground.phase }], guard := none }) (v := ?_) rfl (by kernel_rfl) (by kernel_rfl) (by kernel_rfl) (fun _ _ _ h => h) (Or.inl ⟨by rfl, ?_⟩) sx3 ?_
        rotate_left
        · intro W hSw
          go_simp
          try with_reducible rfl
        simp only [Act.put, List.setIfInBounds_toArray, List.set_cons_zero, List.set_cons_succ]
        refine wpAnyH_done (by kernel_rfl) ?_ _
        have oo := (own_own ox3 ⟨_, _, rfl⟩).wide (unhide B6).size (Nat.le_refl _)
        rw [List.nil_append, Nat.zero_add, List.length_singleton] at oo
        have OO := hide oo
        have BB := hide (bl_st sx3 (unhide B6))
        go_wp2
        go_ret2
        exact ⟨_, by rw [unhide HR]; rfl, by rw [unhide HR]; exact unhide OO, unhide BB⟩
      · have sx1 : Below w6.heap.size w6 ((x0).alloc (.cells #[.int .i64 r, .int .i64 l, .string t] 34)) := bl_al sx0
        have Ux1 := hide (posts_one (heap_at (x0) (.cells #[.int .i64 r, .int .i64 l, .string t] 34) _ rfl))
        have fx1 : Below (x0).heap.size (x0) ((x0).alloc (.cells #[.int .i64 r, .int .i64 l, .string t] 34)) := bl_al (Below.refl _ _)
        refine wpOp_step (o := { dst := some 43, op := Op.buildSlice 25 1 #[(0, Operand.tmp 42)], type := 25, pos := "l06_board.go:160", after := #[{ on := 3, ground := Ground.data }], guard := none }) rfl fun K' hK => step_valueW (by rfl) (.slice (some ⟨(x0).heap.size, 0, none⟩) 1 1) ((x0).alloc (.cells #[.int .i64 r, .int .i64 l, .string t] 34)) (by go_simp) ?_
        refine hK _ _ ⟨sx1, ?_⟩
        simp only [Act.put, List.setIfInBounds_toArray, List.set_cons_zero, List.set_cons_succ]
        generalize (x0).alloc (.cells #[.int .i64 r, .int .i64 l, .string t] 34) = x1 at *
        have Oq := hide (own_below (unhide Ox0) fx1)
        have NE : (some w7.heap.size : Option Nat) ≠ some x0.heap.size := fun e => by have := LX; simp only [Option.some.injEq] at e; omega
        refine wpAnyH_one (i := 2) (by kernel_rfl) ?_
        refine wpOp_step (o := { dst := some 41, op := Op.call { callee := Callee.builtin Builtin.append, args := #[Operand.tmp 39, Operand.tmp 40], argTypes := #[25, 25] }, type := 25, pos := "l06_board.go:160", after := #[{ on := 0, ground := Ground.data }, { on := 1, ground := Ground.data }], guard := none }) rfl fun K' hK => step_append_posts x1 rfl _ _ rfl w6.heap.size 0 _ [] rfl (unhide Oq) ⟨_, _, rfl⟩ _ ps rfl ((unhide V6).below sx1) (by have := unhide HL; omega) (sx1).size ?_
        intro gx2 cx2 x2 ox2 grx2
        have sx2 : Below w6.heap.size w6 x2 := below_grown sx1 grx2 (sx1).size (unhide Oq)
        refine hK _ _ ⟨sx2, ?_⟩
        simp only [Act.put, List.setIfInBounds_toArray, List.set_cons_zero, List.set_cons_succ]
        refine wpAnyH_one (i := 5) (by kernel_rfl) ?_
        refine wpOp_step (o := { dst := some 44, op := Op.call { callee := Callee.builtin Builtin.append, args := #[Operand.tmp 41, Operand.tmp 43], argTypes := #[25, 25] }, type := 25, pos := "l06_board.go:160", after := #[{ on := 2, ground := Ground.data }, { on := 4, ground := Ground.data }, { on := 2, ground := Ground.chain }], guard := none }) rfl fun K' hK => step_append_posts x2 rfl _ _ rfl w6.heap.size (0 + ps.length) _ ([] ++ ps) rfl ox2 ⟨_, _, rfl⟩ _ [(r, l, t)] rfl ((unhide Ux1).grown grx2 (fun e => NE e)) (by have := unhide HL; simp; omega) (sx2).size ?_
        intro gx3 cx3 x3 ox3 grx3
        have sx3 : Below w6.heap.size w6 x3 := below_grown sx2 grx3 (sx2).size ox2
        refine hK _ _ ⟨sx3, ?_⟩
        simp only [Act.put, List.setIfInBounds_toArray, List.set_cons_zero, List.set_cons_succ]
        refine wpAnyH_take (i := 6) (oi := { dst := some 4, op := Op.assign (Operand.tmp 44), type := 25, pos := "l06_board.go:160", after := #[{ on := 5, ground := Ground.data }, { on := 5, ground := Ground.chain }, { on := 0, ground := Ground.phase }, { on := 1, ground := Ground.phase }, { on := 2, ground := Ground.phase }, { on := 3, ground := Ground.phase }, { on := 4, ground := Ground.phase }, { on := 5, ground := Ground.phase }], guard := none }) (v := ?_) rfl (by kernel_rfl) (by kernel_rfl) (by kernel_rfl) (fun _ _ _ h => h) (Or.inl ⟨by rfl, ?_⟩) sx3 ?_
        rotate_left
        · intro W hSw
          go_simp
          try with_reducible rfl
        simp only [Act.put, List.setIfInBounds_toArray, List.set_cons_zero, List.set_cons_succ]
        refine wpAnyH_take (i := 7) (oi := { dst := some 5, op := Op.assign (Operand.const (Value.int IntKind.i64 0)), type := 3, pos := "l06_board.go:160", after := #[{ on := 6, ground := Ground.chain }, { on := 0, ground := Ground.phase }, { on := 1, ground := Ground.phase }, { on := 2, ground := Ground.phase }, { on := 3, ground := Ground.phase }, { on := 4, ground := Ground.phase }, { on := 5, ground := Ground.phase }, { on := 6, ground := Ground.phase }], guard := none }) (v := ?_) rfl (by kernel_rfl) (by kernel_rfl) (by kernel_rfl) (fun _ _ _ h => h) (Or.inl ⟨by rfl, ?_⟩) sx3 ?_
        rotate_left
        · intro W hSw
          go_simp
          try with_reducible rfl
        simp only [Act.put, List.setIfInBounds_toArray, List.set_cons_zero, List.set_cons_succ]
        refine wpAnyH_done (by kernel_rfl) ?_ _
        have oo := (own_own ox3 ⟨_, _, rfl⟩).wide (unhide B6).size (Nat.le_refl _)
        rw [List.nil_append, Nat.zero_add, List.length_singleton] at oo
        have OO := hide oo
        have BB := hide (bl_st sx3 (unhide B6))
        go_wp2
        go_ret2
        exact ⟨_, by rw [unhide HR]; rfl, by rw [unhide HR]; exact unhide OO, unhide BB⟩
    · have sx0 : Below w6.heap.size w6 ((w7).alloc (.cells #[.int .i64 r, .int .i64 l, .string t] 34)) := bl_al hS0
      have Ux0 := hide (posts_one (heap_at (w7) (.cells #[.int .i64 r, .int .i64 l, .string t] 34) _ rfl))
      have fx0 : Below (w7).heap.size (w7) ((w7).alloc (.cells #[.int .i64 r, .int .i64 l, .string t] 34)) := bl_al (Below.refl _ _)
      refine wpOp_step (o := { dst := some 43, op := Op.buildSlice 25 1 #[(0, Operand.tmp 42)], type := 25, pos := "l06_board.go:160", after := #[{ on := 3, ground := Ground.data }], guard := none }) rfl fun K' hK => step_valueW (by rfl) (.slice (some ⟨(w7).heap.size, 0, none⟩) 1 1) ((w7).alloc (.cells #[.int .i64 r, .int .i64 l, .string t] 34)) (by go_simp) ?_
      refine hK _ _ ⟨sx0, ?_⟩
      simp only [Act.put, List.setIfInBounds_toArray, List.set_cons_zero, List.set_cons_succ]
      have LX : w7.heap.size < ((w7).alloc (.cells #[.int .i64 r, .int .i64 l, .string t] 34)).heap.size := by simp
      generalize (w7).alloc (.cells #[.int .i64 r, .int .i64 l, .string t] 34) = x0 at *
      refine wpAnyH_one (i := 0) (by kernel_rfl) ?_
      have sx1 : Below w6.heap.size w6 ((x0).alloc (.cells #[] 34)) := bl_al sx0
      have Ox1 := hide (own_new (x0) (sx0).size)
      have fx1 : Below (x0).heap.size (x0) ((x0).alloc (.cells #[] 34)) := bl_al (Below.refl _ _)
      refine wpOp_step (o := { dst := some 39, op := Op.buildSlice 25 0 #[], type := 25, pos := "l06_board.go:160", after := #[], guard := none }) rfl fun K' hK => step_valueW (by rfl) (.slice (some ⟨(x0).heap.size, 0, none⟩) 0 0) ((x0).alloc (.cells #[] 34)) (by go_simp) ?_
      refine hK _ _ ⟨sx1, ?_⟩
      simp only [Act.put, List.setIfInBounds_toArray, List.set_cons_zero, List.set_cons_succ]
      generalize (x0).alloc (.cells #[] 34) = x1 at *
      have NE : (some x0.heap.size : Option Nat) ≠ some w7.heap.size := fun e => by simp only [Option.some.injEq] at e; omega
      refine wpAnyH_one (i := 2) (by kernel_rfl) ?_
      refine wpOp_step (o := { dst := some 41, op := Op.call { callee := Callee.builtin Builtin.append, args := #[Operand.tmp 39, Operand.tmp 40], argTypes := #[25, 25] }, type := 25, pos := "l06_board.go:160", after := #[{ on := 0, ground := Ground.data }, { on := 1, ground := Ground.data }], guard := none }) rfl fun K' hK => step_append_posts x1 rfl _ _ rfl w6.heap.size 0 _ [] rfl (unhide Ox1) ⟨_, _, rfl⟩ _ ps rfl ((unhide V6).below sx1) (by have := unhide HL; omega) (sx1).size ?_
      intro gx2 cx2 x2 ox2 grx2
      have sx2 : Below w6.heap.size w6 x2 := below_grown sx1 grx2 (sx1).size (unhide Ox1)
      refine hK _ _ ⟨sx2, ?_⟩
      simp only [Act.put, List.setIfInBounds_toArray, List.set_cons_zero, List.set_cons_succ]
      refine wpAnyH_one (i := 5) (by kernel_rfl) ?_
      refine wpOp_step (o := { dst := some 44, op := Op.call { callee := Callee.builtin Builtin.append, args := #[Operand.tmp 41, Operand.tmp 43], argTypes := #[25, 25] }, type := 25, pos := "l06_board.go:160", after := #[{ on := 2, ground := Ground.data }, { on := 4, ground := Ground.data }, { on := 2, ground := Ground.chain }], guard := none }) rfl fun K' hK => step_append_posts x2 rfl _ _ rfl w6.heap.size (0 + ps.length) _ ([] ++ ps) rfl ox2 ⟨_, _, rfl⟩ _ [(r, l, t)] rfl (((unhide Ux0).below fx1).grown grx2 (fun e => NE e)) (by have := unhide HL; simp; omega) (sx2).size ?_
      intro gx3 cx3 x3 ox3 grx3
      have sx3 : Below w6.heap.size w6 x3 := below_grown sx2 grx3 (sx2).size ox2
      refine hK _ _ ⟨sx3, ?_⟩
      simp only [Act.put, List.setIfInBounds_toArray, List.set_cons_zero, List.set_cons_succ]
      refine wpAnyH_take (i := 6) (oi := { dst := some 4, op := Op.assign (Operand.tmp 44), type := 25, pos := "l06_board.go:160", after := #[{ on := 5, ground := Ground.data }, { on := 5, ground := Ground.chain }, { on := 0, ground := Ground.phase }, { on := 1, ground := Ground.phase }, { on := 2, ground := Ground.phase }, { on := 3, ground := Ground.phase }, { on := 4, ground := Ground.phase }, { on := 5, ground := Ground.phase }], guard := none }) (v := ?_) rfl (by kernel_rfl) (by kernel_rfl) (by kernel_rfl) (fun _ _ _ h => h) (Or.inl ⟨by rfl, ?_⟩) sx3 ?_
      rotate_left
      · intro W hSw
        go_simp
        try with_reducible rfl
      simp only [Act.put, List.setIfInBounds_toArray, List.set_cons_zero, List.set_cons_succ]
      refine wpAnyH_take (i := 7) (oi := { dst := some 5, op := Op.assign (Operand.const (Value.int IntKind.i64 0)), type := 3, pos := "l06_board.go:160", after := #[{ on := 6, ground := Ground.chain }, { on := 0, ground := Ground.phase }, { on := 1, ground := Ground.phase }, { on := 2, ground := Ground.phase }, { on := 3, ground := Ground.phase }, { on := 4, ground := Ground.phase }, { on := 5, ground := Ground.phase }, { on := 6, ground := Ground.phase }], guard := none }) (v := ?_) rfl (by kernel_rfl) (by kernel_rfl) (by kernel_rfl) (fun _ _ _ h => h) (Or.inl ⟨by rfl, ?_⟩) sx3 ?_
      rotate_left
      · intro W hSw
        go_simp
        try with_reducible rfl
      simp only [Act.put, List.setIfInBounds_toArray, List.set_cons_zero, List.set_cons_succ]
      refine wpAnyH_done (by kernel_rfl) ?_ _
      have oo := (own_own ox3 ⟨_, _, rfl⟩).wide (unhide B6).size (Nat.le_refl _)
      rw [List.nil_append, Nat.zero_add, List.length_singleton] at oo
      have OO := hide oo
      have BB := hide (bl_st sx3 (unhide B6))
      go_wp2
      go_ret2
      exact ⟨_, by rw [unhide HR]; rfl, by rw [unhide HR]; exact unhide OO, unhide BB⟩
  · obtain ⟨A', cap', ev, hc⟩ := unhide V5
    simp only [Value.slice.injEq] at ev
    obtain ⟨rfl, _, rfl⟩ := ev
    obtain ⟨b, off, hA, lb, hcc⟩ := hc h0
    clear hc
    subst hA
    have PB := hide (posts_last h0 hcc)
    have LB := hide lb
    have z : decide (0 < ps.length) = true := decide_eq_true h0
    have wk : IntKind.i64.wrap ((ps.length : Int) - 1) = (((ps.length - 1 : Nat)) : Int) := by rw [IntKind.wrap_i64]; omega
    have k0 : (0 : Int) ≤ ((ps.length - 1 : Nat) : Int) := by omega
    have kl : ((ps.length - 1 : Nat) : Int) < (ps.length : Int) := by omega
    have HLA : Hid (∀ q, lastP ps = q → later q (r, l, t) = later (lastP ps) (r, l, t)) := fun q hq => by rw [hq]
    have H0 := hide h0
    have K3 := hide (show ∀ b, later (lastP ps) (r, l, t) = b → later (lastP ps) (r, l, t) = b from fun _ h => h)
    clear lb hcc
    generalize hq : lastP ps = q at *
    obtain ⟨r', l', t'⟩ := q
    have HQ := hide hq
    have L20 := hide (fun W => later20 r' l' r l t' t W)
    clear hq HLA K3 h0
    rcases hlt : later (r', l', t') (r, l, t)
    · have HR := hide (aR_d (unhide HL) (unhide HB) (unhide HK) (unhide H0) (by rw [unhide HQ]; exact hlt))
      rw [hlt] at L20
      clear hlt
      go_wp2
      refine wp_region_held (S := fun W' => Below w5.heap.size w5 W') (by kernel_rfl) ?_
      have hS0 : Below w5.heap.size w5 { w5 with drawn := w5.drawn + 1 } := below_drewN (Below.refl _ _) 1
      refine wpAnyH_take (i := 0) (oi := { dst := some 20, op := Op.move (Operand.tmp 0), type := 25, pos := "l06_board.go:154", after := #[], guard := none }) (v := ?_) rfl (by kernel_rfl) (by kernel_rfl) (by kernel_rfl) (fun _ _ _ h => h) (Or.inl ⟨by rfl, ?_⟩) hS0 ?_
      rotate_left
      · intro W hSw
        obtain ⟨c0, c1, c2⟩ := (unhide PA).below (unhide LA) hSw
        obtain ⟨d0, d1, d2⟩ := (unhide PB).below (unhide LB) hSw
        dsimp only [Nat.zero_add] at c0 c1 c2 d0 d1 d2
        go_simp
        try with_reducible rfl
      simp only [Act.put, List.setIfInBounds_toArray, List.set_cons_zero, List.set_cons_succ]
      refine wpAnyH_take (i := 1) (oi := { dst := some 21, op := Op.call { callee := Callee.builtin Builtin.len, args := #[Operand.tmp 20], argTypes := #[25] }, type := 3, pos := "l06_board.go:154", after := #[{ on := 0, ground := Ground.data }], guard := none }) (v := ?_) rfl (by kernel_rfl) (by kernel_rfl) (by kernel_rfl) (fun _ _ _ h => h) (Or.inl ⟨by rfl, ?_⟩) hS0 ?_
      rotate_left
      · intro W hSw
        obtain ⟨c0, c1, c2⟩ := (unhide PA).below (unhide LA) hSw
        obtain ⟨d0, d1, d2⟩ := (unhide PB).below (unhide LB) hSw
        dsimp only [Nat.zero_add] at c0 c1 c2 d0 d1 d2
        go_simp
        try with_reducible rfl
      simp only [Act.put, List.setIfInBounds_toArray, List.set_cons_zero, List.set_cons_succ]
      refine wpAnyH_take (i := 2) (oi := { dst := some 22, op := Op.binOp BinOp.gtr 3 (Operand.tmp 21) (Operand.const (Value.int IntKind.i64 0)) 3, type := 4, pos := "l06_board.go:154", after := #[{ on := 1, ground := Ground.data }], guard := none }) (v := ?_) rfl (by kernel_rfl) (by kernel_rfl) (by kernel_rfl) (fun _ _ _ h => h) (Or.inl ⟨by rfl, ?_⟩) hS0 ?_
      rotate_left
      · intro W hSw
        obtain ⟨c0, c1, c2⟩ := (unhide PA).below (unhide LA) hSw
        obtain ⟨d0, d1, d2⟩ := (unhide PB).below (unhide LB) hSw
        dsimp only [Nat.zero_add] at c0 c1 c2 d0 d1 d2
        go_simp
        try with_reducible rfl
      simp only [Act.put, List.setIfInBounds_toArray, List.set_cons_zero, List.set_cons_succ]
      refine wpAnyH_take (i := 3) (oi := { dst := some 23, op := Op.move (Operand.tmp 22), type := 4, pos := "l06_board.go:154", after := #[{ on := 2, ground := Ground.data }], guard := none }) (v := ?_) rfl (by kernel_rfl) (by kernel_rfl) (by kernel_rfl) (fun _ _ _ h => h) (Or.inl ⟨by rfl, ?_⟩) hS0 ?_
      rotate_left
      · intro W hSw
        obtain ⟨c0, c1, c2⟩ := (unhide PA).below (unhide LA) hSw
        obtain ⟨d0, d1, d2⟩ := (unhide PB).below (unhide LB) hSw
        dsimp only [Nat.zero_add] at c0 c1 c2 d0 d1 d2
        go_simp
        try with_reducible rfl
      simp only [Act.put, List.setIfInBounds_toArray, List.set_cons_zero, List.set_cons_succ]
      try simp only [z]
      refine wpAnyH_take (i := 4) (oi := { dst := some 24, op := Op.move (Operand.tmp 0), type := 25, pos := "l06_board.go:154", after := #[{ on := 3, ground := Ground.guard }], guard := some (3, true) }) (v := ?_) rfl (by kernel_rfl) (by kernel_rfl) (by kernel_rfl) (fun _ _ _ h => h) (Or.inl ⟨by rfl, ?_⟩) hS0 ?_
      rotate_left
      · intro W hSw
        obtain ⟨c0, c1, c2⟩ := (unhide PA).below (unhide LA) hSw
        obtain ⟨d0, d1, d2⟩ := (unhide PB).below (unhide LB) hSw
        dsimp only [Nat.zero_add] at c0 c1 c2 d0 d1 d2
        go_simp
        try with_reducible rfl
      simp only [Act.put, List.setIfInBounds_toArray, List.set_cons_zero, List.set_cons_succ]
      refine wpAnyH_take (i := 5) (oi := { dst := some 25, op := Op.move (Operand.tmp 0), type := 25, pos := "l06_board.go:154", after := #[{ on := 3, ground := Ground.guard }], guard := some (3, true) }) (v := ?_) rfl (by kernel_rfl) (by kernel_rfl) (by kernel_rfl) (fun _ _ _ h => h) (Or.inl ⟨by rfl, ?_⟩) hS0 ?_
      rotate_left
      · intro W hSw
        obtain ⟨c0, c1, c2⟩ := (unhide PA).below (unhide LA) hSw
        obtain ⟨d0, d1, d2⟩ := (unhide PB).below (unhide LB) hSw
        dsimp only [Nat.zero_add] at c0 c1 c2 d0 d1 d2
        go_simp
        try with_reducible rfl
      simp only [Act.put, List.setIfInBounds_toArray, List.set_cons_zero, List.set_cons_succ]
      refine wpAnyH_take (i := 6) (oi := { dst := some 26, op := Op.call { callee := Callee.builtin Builtin.len, args := #[Operand.tmp 25], argTypes := #[25] }, type := 3, pos := "l06_board.go:154", after := #[{ on := 5, ground := Ground.data }, { on := 3, ground := Ground.guard }], guard := some (3, true) }) (v := ?_) rfl (by kernel_rfl) (by kernel_rfl) (by kernel_rfl) (fun _ _ _ h => h) (Or.inl ⟨by rfl, ?_⟩) hS0 ?_
      rotate_left
      · intro W hSw
        obtain ⟨c0, c1, c2⟩ := (unhide PA).below (unhide LA) hSw
        obtain ⟨d0, d1, d2⟩ := (unhide PB).below (unhide LB) hSw
        dsimp only [Nat.zero_add] at c0 c1 c2 d0 d1 d2
        go_simp
        try with_reducible rfl
      simp only [Act.put, List.setIfInBounds_toArray, List.set_cons_zero, List.set_cons_succ]
      refine wpAnyH_take (i := 7) (oi := { dst := some 27, op := Op.binOp BinOp.sub 3 (Operand.tmp 26) (Operand.const (Value.int IntKind.i64 1)) 3, type := 3, pos := "l06_board.go:154", after := #[{ on := 6, ground := Ground.data }, { on := 3, ground := Ground.guard }], guard := some (3, true) }) (v := ?_) rfl (by kernel_rfl) (by kernel_rfl) (by kernel_rfl) (fun _ _ _ h => h) (Or.inl ⟨by rfl, ?_⟩) hS0 ?_
      rotate_left
      · intro W hSw
        obtain ⟨c0, c1, c2⟩ := (unhide PA).below (unhide LA) hSw
        obtain ⟨d0, d1, d2⟩ := (unhide PB).below (unhide LB) hSw
        dsimp only [Nat.zero_add] at c0 c1 c2 d0 d1 d2
        go_simp
        try with_reducible rfl
      simp only [Act.put, List.setIfInBounds_toArray, List.set_cons_zero, List.set_cons_succ]
      refine wpAnyH_take (i := 8) (oi := { dst := some 28, op := Op.indexAddr 25 (Operand.tmp 24) (Operand.tmp 27), type := 0, pos := "l06_board.go:154", after := #[{ on := 4, ground := Ground.data }, { on := 7, ground := Ground.data }, { on := 3, ground := Ground.guard }], guard := some (3, true) }) (v := ?_) rfl (by kernel_rfl) (by kernel_rfl) (by kernel_rfl) (fun _ _ _ h => h) (Or.inl ⟨by rfl, ?_⟩) hS0 ?_
      rotate_left
      · intro W hSw
        obtain ⟨c0, c1, c2⟩ := (unhide PA).below (unhide LA) hSw
        obtain ⟨d0, d1, d2⟩ := (unhide PB).below (unhide LB) hSw
        dsimp only [Nat.zero_add] at c0 c1 c2 d0 d1 d2
        go_simp
        try with_reducible rfl
      simp only [Act.put, List.setIfInBounds_toArray, List.set_cons_zero, List.set_cons_succ]
      refine wpAnyH_take (i := 9) (oi := { dst := some 29, op := Op.load 34 (Operand.tmp 28), type := 34, pos := "l06_board.go:154", after := #[{ on := 8, ground := Ground.data }, { on := 3, ground := Ground.guard }], guard := some (3, true) }) (v := ?_) rfl (by kernel_rfl) (by kernel_rfl) (by kernel_rfl) (fun _ _ _ h => h) (Or.inl ⟨by rfl, ?_⟩) hS0 ?_
      rotate_left
      · intro W hSw
        obtain ⟨c0, c1, c2⟩ := (unhide PA).below (unhide LA) hSw
        obtain ⟨d0, d1, d2⟩ := (unhide PB).below (unhide LB) hSw
        dsimp only [Nat.zero_add] at c0 c1 c2 d0 d1 d2
        go_simp
        try with_reducible rfl
      simp only [Act.put, List.setIfInBounds_toArray, List.set_cons_zero, List.set_cons_succ]
      refine wpAnyH_take (i := 10) (oi := { dst := some 30, op := Op.load 34 (Operand.tmp 3), type := 34, pos := "l06_board.go:154", after := #[{ on := 3, ground := Ground.guard }], guard := some (3, true) }) (v := ?_) rfl (by kernel_rfl) (by kernel_rfl) (by kernel_rfl) (fun _ _ _ h => h) (Or.inl ⟨by rfl, ?_⟩) hS0 ?_
      rotate_left
      · intro W hSw
        obtain ⟨c0, c1, c2⟩ := (unhide PA).below (unhide LA) hSw
        obtain ⟨d0, d1, d2⟩ := (unhide PB).below (unhide LB) hSw
        dsimp only [Nat.zero_add] at c0 c1 c2 d0 d1 d2
        go_simp
        try with_reducible rfl
      simp only [Act.put, List.setIfInBounds_toArray, List.set_cons_zero, List.set_cons_succ]
      refine wpAnyH_one (i := 11) (by kernel_rfl) ?_
      refine wpOp_step (o := { dst := some 31, op := Op.call { callee := Callee.value (Operand.func 20), args := #[Operand.tmp 29, Operand.tmp 30], argTypes := #[34, 34] }, type := 4, pos := "l06_board.go:154", after := #[{ on := 9, ground := Ground.data }, { on := 10, ground := Ground.data }, { on := 3, ground := Ground.chain }, { on := 3, ground := Ground.guard }], guard := some (3, true) }) rfl fun K' hK => step_enterW (by rfl) 20 #[postV (r', l', t'), postV (r, l, t)] (by go_simp) ((unhide L20 _).mono ?_)
      rintro e w6 ⟨rfl, b1⟩
      have s1 := bl_st b1 hS0
      clear b1
      refine ⟨_, rfl, hK _ _ ⟨s1, ?_⟩⟩
      simp only [Act.put, List.setIfInBounds_toArray, List.set_cons_zero, List.set_cons_succ]
      refine wpAnyH_take (i := 12) (oi := { dst := some 32, op := Op.unOp UnOp.not 4 (Operand.tmp 31), type := 4, pos := "l06_board.go:154", after := #[{ on := 11, ground := Ground.data }, { on := 3, ground := Ground.guard }], guard := some (3, true) }) (v := ?_) rfl (by kernel_rfl) (by kernel_rfl) (by kernel_rfl) (fun _ _ _ h => h) (Or.inl ⟨by rfl, ?_⟩) s1 ?_
      rotate_left
      · intro W hSw
        go_simp
        try with_reducible rfl
      simp only [Act.put, List.setIfInBounds_toArray, List.set_cons_zero, List.set_cons_succ]
      refine wpAnyH_take (i := 13) (oi := { dst := some 33, op := Op.pick (Operand.tmp 23) (Operand.tmp 32) (Operand.const (Value.bool false)), type := 4, pos := "l06_board.go:154", after := #[{ on := 3, ground := Ground.data }, { on := 12, ground := Ground.data }], guard := none }) (v := ?_) rfl (by kernel_rfl) (by kernel_rfl) (by kernel_rfl) (fun _ _ _ h => h) (Or.inl ⟨by rfl, ?_⟩) s1 ?_
      rotate_left
      · intro W hSw
        go_simp
        try with_reducible rfl
      simp only [Act.put, List.setIfInBounds_toArray, List.set_cons_zero, List.set_cons_succ]
      refine wpAnyH_done (by kernel_rfl) ?_ _
      have B6 := hide (bl_st s1 (unhide B5))
      have V6 := hide ((unhide V5).below s1)
      have P6 := hide ((unhide PA).below (unhide LA) s1)
      have L6 := hide (Nat.lt_of_lt_of_le (unhide LA) s1.size)
      clear s1 hS0
      go_wp2
      go_ret2
      exact ⟨_, by rw [unhide HR]; rfl, by rw [unhide HR]; exact own_empty (unhide B6).size, bl_al (unhide B6)⟩
    rw [hlt] at L20
    by_cases h6 : ps.length = 64
    · have HR := hide (aR_e (unhide HL) (unhide HB) (unhide HK) (by rw [unhide HQ]; exact hlt) h6)
      have z2 : (ps.length : Int) = 64 := by omega
      clear hlt h6
      have Z2 := hide z2
      clear z2
      go_wp2
      refine wp_region_held (S := fun W' => Below w5.heap.size w5 W') (by kernel_rfl) ?_
      have hS0 : Below w5.heap.size w5 { w5 with drawn := w5.drawn + 1 } := below_drewN (Below.refl _ _) 1
      refine wpAnyH_take (i := 0) (oi := { dst := some 20, op := Op.move (Operand.tmp 0), type := 25, pos := "l06_board.go:154", after := #[], guard := none }) (v := ?_) rfl (by kernel_rfl) (by kernel_rfl) (by kernel_rfl) (fun _ _ _ h => h) (Or.inl ⟨by rfl, ?_⟩) hS0 ?_
      rotate_left
      · intro W hSw
        obtain ⟨c0, c1, c2⟩ := (unhide PA).below (unhide LA) hSw
        obtain ⟨d0, d1, d2⟩ := (unhide PB).below (unhide LB) hSw
        dsimp only [Nat.zero_add] at c0 c1 c2 d0 d1 d2
        go_simp
        try with_reducible rfl
      simp only [Act.put, List.setIfInBounds_toArray, List.set_cons_zero, List.set_cons_succ]
      refine wpAnyH_take (i := 1) (oi := { dst := some 21, op := Op.call { callee := Callee.builtin Builtin.len, args := #[Operand.tmp 20], argTypes := #[25] }, type := 3, pos := "l06_board.go:154", after := #[{ on := 0, ground := Ground.data }], guard := none }) (v := ?_) rfl (by kernel_rfl) (by kernel_rfl) (by kernel_rfl) (fun _ _ _ h => h) (Or.inl ⟨by rfl, ?_⟩) hS0 ?_
      rotate_left
      · intro W hSw
        obtain ⟨c0, c1, c2⟩ := (unhide PA).below (unhide LA) hSw
        obtain ⟨d0, d1, d2⟩ := (unhide PB).below (unhide LB) hSw
        dsimp only [Nat.zero_add] at c0 c1 c2 d0 d1 d2
        go_simp
        try with_reducible rfl
      simp only [Act.put, List.setIfInBounds_toArray, List.set_cons_zero, List.set_cons_succ]
      refine wpAnyH_take (i := 2) (oi := { dst := some 22, op := Op.binOp BinOp.gtr 3 (Operand.tmp 21) (Operand.const (Value.int IntKind.i64 0)) 3, type := 4, pos := "l06_board.go:154", after := #[{ on := 1, ground := Ground.data }], guard := none }) (v := ?_) rfl (by kernel_rfl) (by kernel_rfl) (by kernel_rfl) (fun _ _ _ h => h) (Or.inl ⟨by rfl, ?_⟩) hS0 ?_
      rotate_left
      · intro W hSw
        obtain ⟨c0, c1, c2⟩ := (unhide PA).below (unhide LA) hSw
        obtain ⟨d0, d1, d2⟩ := (unhide PB).below (unhide LB) hSw
        dsimp only [Nat.zero_add] at c0 c1 c2 d0 d1 d2
        go_simp
        try with_reducible rfl
      simp only [Act.put, List.setIfInBounds_toArray, List.set_cons_zero, List.set_cons_succ]
      refine wpAnyH_take (i := 3) (oi := { dst := some 23, op := Op.move (Operand.tmp 22), type := 4, pos := "l06_board.go:154", after := #[{ on := 2, ground := Ground.data }], guard := none }) (v := ?_) rfl (by kernel_rfl) (by kernel_rfl) (by kernel_rfl) (fun _ _ _ h => h) (Or.inl ⟨by rfl, ?_⟩) hS0 ?_
      rotate_left
      · intro W hSw
        obtain ⟨c0, c1, c2⟩ := (unhide PA).below (unhide LA) hSw
        obtain ⟨d0, d1, d2⟩ := (unhide PB).below (unhide LB) hSw
        dsimp only [Nat.zero_add] at c0 c1 c2 d0 d1 d2
        go_simp
        try with_reducible rfl
      simp only [Act.put, List.setIfInBounds_toArray, List.set_cons_zero, List.set_cons_succ]
      try simp only [z]
      refine wpAnyH_take (i := 4) (oi := { dst := some 24, op := Op.move (Operand.tmp 0), type := 25, pos := "l06_board.go:154", after := #[{ on := 3, ground := Ground.guard }], guard := some (3, true) }) (v := ?_) rfl (by kernel_rfl) (by kernel_rfl) (by kernel_rfl) (fun _ _ _ h => h) (Or.inl ⟨by rfl, ?_⟩) hS0 ?_
      rotate_left
      · intro W hSw
        obtain ⟨c0, c1, c2⟩ := (unhide PA).below (unhide LA) hSw
        obtain ⟨d0, d1, d2⟩ := (unhide PB).below (unhide LB) hSw
        dsimp only [Nat.zero_add] at c0 c1 c2 d0 d1 d2
        go_simp
        try with_reducible rfl
      simp only [Act.put, List.setIfInBounds_toArray, List.set_cons_zero, List.set_cons_succ]
      refine wpAnyH_take (i := 5) (oi := { dst := some 25, op := Op.move (Operand.tmp 0), type := 25, pos := "l06_board.go:154", after := #[{ on := 3, ground := Ground.guard }], guard := some (3, true) }) (v := ?_) rfl (by kernel_rfl) (by kernel_rfl) (by kernel_rfl) (fun _ _ _ h => h) (Or.inl ⟨by rfl, ?_⟩) hS0 ?_
      rotate_left
      · intro W hSw
        obtain ⟨c0, c1, c2⟩ := (unhide PA).below (unhide LA) hSw
        obtain ⟨d0, d1, d2⟩ := (unhide PB).below (unhide LB) hSw
        dsimp only [Nat.zero_add] at c0 c1 c2 d0 d1 d2
        go_simp
        try with_reducible rfl
      simp only [Act.put, List.setIfInBounds_toArray, List.set_cons_zero, List.set_cons_succ]
      refine wpAnyH_take (i := 6) (oi := { dst := some 26, op := Op.call { callee := Callee.builtin Builtin.len, args := #[Operand.tmp 25], argTypes := #[25] }, type := 3, pos := "l06_board.go:154", after := #[{ on := 5, ground := Ground.data }, { on := 3, ground := Ground.guard }], guard := some (3, true) }) (v := ?_) rfl (by kernel_rfl) (by kernel_rfl) (by kernel_rfl) (fun _ _ _ h => h) (Or.inl ⟨by rfl, ?_⟩) hS0 ?_
      rotate_left
      · intro W hSw
        obtain ⟨c0, c1, c2⟩ := (unhide PA).below (unhide LA) hSw
        obtain ⟨d0, d1, d2⟩ := (unhide PB).below (unhide LB) hSw
        dsimp only [Nat.zero_add] at c0 c1 c2 d0 d1 d2
        go_simp
        try with_reducible rfl
      simp only [Act.put, List.setIfInBounds_toArray, List.set_cons_zero, List.set_cons_succ]
      refine wpAnyH_take (i := 7) (oi := { dst := some 27, op := Op.binOp BinOp.sub 3 (Operand.tmp 26) (Operand.const (Value.int IntKind.i64 1)) 3, type := 3, pos := "l06_board.go:154", after := #[{ on := 6, ground := Ground.data }, { on := 3, ground := Ground.guard }], guard := some (3, true) }) (v := ?_) rfl (by kernel_rfl) (by kernel_rfl) (by kernel_rfl) (fun _ _ _ h => h) (Or.inl ⟨by rfl, ?_⟩) hS0 ?_
      rotate_left
      · intro W hSw
        obtain ⟨c0, c1, c2⟩ := (unhide PA).below (unhide LA) hSw
        obtain ⟨d0, d1, d2⟩ := (unhide PB).below (unhide LB) hSw
        dsimp only [Nat.zero_add] at c0 c1 c2 d0 d1 d2
        go_simp
        try with_reducible rfl
      simp only [Act.put, List.setIfInBounds_toArray, List.set_cons_zero, List.set_cons_succ]
      refine wpAnyH_take (i := 8) (oi := { dst := some 28, op := Op.indexAddr 25 (Operand.tmp 24) (Operand.tmp 27), type := 0, pos := "l06_board.go:154", after := #[{ on := 4, ground := Ground.data }, { on := 7, ground := Ground.data }, { on := 3, ground := Ground.guard }], guard := some (3, true) }) (v := ?_) rfl (by kernel_rfl) (by kernel_rfl) (by kernel_rfl) (fun _ _ _ h => h) (Or.inl ⟨by rfl, ?_⟩) hS0 ?_
      rotate_left
      · intro W hSw
        obtain ⟨c0, c1, c2⟩ := (unhide PA).below (unhide LA) hSw
        obtain ⟨d0, d1, d2⟩ := (unhide PB).below (unhide LB) hSw
        dsimp only [Nat.zero_add] at c0 c1 c2 d0 d1 d2
        go_simp
        try with_reducible rfl
      simp only [Act.put, List.setIfInBounds_toArray, List.set_cons_zero, List.set_cons_succ]
      refine wpAnyH_take (i := 9) (oi := { dst := some 29, op := Op.load 34 (Operand.tmp 28), type := 34, pos := "l06_board.go:154", after := #[{ on := 8, ground := Ground.data }, { on := 3, ground := Ground.guard }], guard := some (3, true) }) (v := ?_) rfl (by kernel_rfl) (by kernel_rfl) (by kernel_rfl) (fun _ _ _ h => h) (Or.inl ⟨by rfl, ?_⟩) hS0 ?_
      rotate_left
      · intro W hSw
        obtain ⟨c0, c1, c2⟩ := (unhide PA).below (unhide LA) hSw
        obtain ⟨d0, d1, d2⟩ := (unhide PB).below (unhide LB) hSw
        dsimp only [Nat.zero_add] at c0 c1 c2 d0 d1 d2
        go_simp
        try with_reducible rfl
      simp only [Act.put, List.setIfInBounds_toArray, List.set_cons_zero, List.set_cons_succ]
      refine wpAnyH_take (i := 10) (oi := { dst := some 30, op := Op.load 34 (Operand.tmp 3), type := 34, pos := "l06_board.go:154", after := #[{ on := 3, ground := Ground.guard }], guard := some (3, true) }) (v := ?_) rfl (by kernel_rfl) (by kernel_rfl) (by kernel_rfl) (fun _ _ _ h => h) (Or.inl ⟨by rfl, ?_⟩) hS0 ?_
      rotate_left
      · intro W hSw
        obtain ⟨c0, c1, c2⟩ := (unhide PA).below (unhide LA) hSw
        obtain ⟨d0, d1, d2⟩ := (unhide PB).below (unhide LB) hSw
        dsimp only [Nat.zero_add] at c0 c1 c2 d0 d1 d2
        go_simp
        try with_reducible rfl
      simp only [Act.put, List.setIfInBounds_toArray, List.set_cons_zero, List.set_cons_succ]
      refine wpAnyH_one (i := 11) (by kernel_rfl) ?_
      refine wpOp_step (o := { dst := some 31, op := Op.call { callee := Callee.value (Operand.func 20), args := #[Operand.tmp 29, Operand.tmp 30], argTypes := #[34, 34] }, type := 4, pos := "l06_board.go:154", after := #[{ on := 9, ground := Ground.data }, { on := 10, ground := Ground.data }, { on := 3, ground := Ground.chain }, { on := 3, ground := Ground.guard }], guard := some (3, true) }) rfl fun K' hK => step_enterW (by rfl) 20 #[postV (r', l', t'), postV (r, l, t)] (by go_simp) ((unhide L20 _).mono ?_)
      rintro e w6 ⟨rfl, b1⟩
      have s1 := bl_st b1 hS0
      clear b1
      refine ⟨_, rfl, hK _ _ ⟨s1, ?_⟩⟩
      simp only [Act.put, List.setIfInBounds_toArray, List.set_cons_zero, List.set_cons_succ]
      refine wpAnyH_take (i := 12) (oi := { dst := some 32, op := Op.unOp UnOp.not 4 (Operand.tmp 31), type := 4, pos := "l06_board.go:154", after := #[{ on := 11, ground := Ground.data }, { on := 3, ground := Ground.guard }], guard := some (3, true) }) (v := ?_) rfl (by kernel_rfl) (by kernel_rfl) (by kernel_rfl) (fun _ _ _ h => h) (Or.inl ⟨by rfl, ?_⟩) s1 ?_
      rotate_left
      · intro W hSw
        go_simp
        try with_reducible rfl
      simp only [Act.put, List.setIfInBounds_toArray, List.set_cons_zero, List.set_cons_succ]
      refine wpAnyH_take (i := 13) (oi := { dst := some 33, op := Op.pick (Operand.tmp 23) (Operand.tmp 32) (Operand.const (Value.bool false)), type := 4, pos := "l06_board.go:154", after := #[{ on := 3, ground := Ground.data }, { on := 12, ground := Ground.data }], guard := none }) (v := ?_) rfl (by kernel_rfl) (by kernel_rfl) (by kernel_rfl) (fun _ _ _ h => h) (Or.inl ⟨by rfl, ?_⟩) s1 ?_
      rotate_left
      · intro W hSw
        go_simp
        try with_reducible rfl
      simp only [Act.put, List.setIfInBounds_toArray, List.set_cons_zero, List.set_cons_succ]
      refine wpAnyH_done (by kernel_rfl) ?_ _
      have B6 := hide (bl_st s1 (unhide B5))
      have V6 := hide ((unhide V5).below s1)
      have P6 := hide ((unhide PA).below (unhide LA) s1)
      have L6 := hide (Nat.lt_of_lt_of_le (unhide LA) s1.size)
      clear s1 hS0
      have z2 := unhide Z2
      go_wp2
      go_ret2
      exact ⟨_, by rw [unhide HR]; rfl, by rw [unhide HR]; exact own_empty (unhide B6).size, bl_al (unhide B6)⟩
    · have HR := hide (aR_f (unhide HL) (unhide HB) (unhide HK) (.inr (by rw [unhide HQ]; exact hlt)) h6)
      have z2 : ¬ ((ps.length : Int) = 64) := by omega
      clear hlt h6
      go_wp2
      refine wp_region_held (S := fun W' => Below w5.heap.size w5 W') (by kernel_rfl) ?_
      have hS0 : Below w5.heap.size w5 { w5 with drawn := w5.drawn + 1 } := below_drewN (Below.refl _ _) 1
      refine wpAnyH_take (i := 0) (oi := { dst := some 20, op := Op.move (Operand.tmp 0), type := 25, pos := "l06_board.go:154", after := #[], guard := none }) (v := ?_) rfl (by kernel_rfl) (by kernel_rfl) (by kernel_rfl) (fun _ _ _ h => h) (Or.inl ⟨by rfl, ?_⟩) hS0 ?_
      rotate_left
      · intro W hSw
        obtain ⟨c0, c1, c2⟩ := (unhide PA).below (unhide LA) hSw
        obtain ⟨d0, d1, d2⟩ := (unhide PB).below (unhide LB) hSw
        dsimp only [Nat.zero_add] at c0 c1 c2 d0 d1 d2
        go_simp
        try with_reducible rfl
      simp only [Act.put, List.setIfInBounds_toArray, List.set_cons_zero, List.set_cons_succ]
      refine wpAnyH_take (i := 1) (oi := { dst := some 21, op := Op.call { callee := Callee.builtin Builtin.len, args := #[Operand.tmp 20], argTypes := #[25] }, type := 3, pos := "l06_board.go:154", after := #[{ on := 0, ground := Ground.data }], guard := none }) (v := ?_) rfl (by kernel_rfl) (by kernel_rfl) (by kernel_rfl) (fun _ _ _ h => h) (Or.inl ⟨by rfl, ?_⟩) hS0 ?_
      rotate_left
      · intro W hSw
        obtain ⟨c0, c1, c2⟩ := (unhide PA).below (unhide LA) hSw
        obtain ⟨d0, d1, d2⟩ := (unhide PB).below (unhide LB) hSw
        dsimp only [Nat.zero_add] at c0 c1 c2 d0 d1 d2
        go_simp
        try with_reducible rfl
      simp only [Act.put, List.setIfInBounds_toArray, List.set_cons_zero, List.set_cons_succ]
      refine wpAnyH_take (i := 2) (oi := { dst := some 22, op := Op.binOp BinOp.gtr 3 (Operand.tmp 21) (Operand.const (Value.int IntKind.i64 0)) 3, type := 4, pos := "l06_board.go:154", after := #[{ on := 1, ground := Ground.data }], guard := none }) (v := ?_) rfl (by kernel_rfl) (by kernel_rfl) (by kernel_rfl) (fun _ _ _ h => h) (Or.inl ⟨by rfl, ?_⟩) hS0 ?_
      rotate_left
      · intro W hSw
        obtain ⟨c0, c1, c2⟩ := (unhide PA).below (unhide LA) hSw
        obtain ⟨d0, d1, d2⟩ := (unhide PB).below (unhide LB) hSw
        dsimp only [Nat.zero_add] at c0 c1 c2 d0 d1 d2
        go_simp
        try with_reducible rfl
      simp only [Act.put, List.setIfInBounds_toArray, List.set_cons_zero, List.set_cons_succ]
      refine wpAnyH_take (i := 3) (oi := { dst := some 23, op := Op.move (Operand.tmp 22), type := 4, pos := "l06_board.go:154", after := #[{ on := 2, ground := Ground.data }], guard := none }) (v := ?_) rfl (by kernel_rfl) (by kernel_rfl) (by kernel_rfl) (fun _ _ _ h => h) (Or.inl ⟨by rfl, ?_⟩) hS0 ?_
      rotate_left
      · intro W hSw
        obtain ⟨c0, c1, c2⟩ := (unhide PA).below (unhide LA) hSw
        obtain ⟨d0, d1, d2⟩ := (unhide PB).below (unhide LB) hSw
        dsimp only [Nat.zero_add] at c0 c1 c2 d0 d1 d2
        go_simp
        try with_reducible rfl
      simp only [Act.put, List.setIfInBounds_toArray, List.set_cons_zero, List.set_cons_succ]
      try simp only [z]
      refine wpAnyH_take (i := 4) (oi := { dst := some 24, op := Op.move (Operand.tmp 0), type := 25, pos := "l06_board.go:154", after := #[{ on := 3, ground := Ground.guard }], guard := some (3, true) }) (v := ?_) rfl (by kernel_rfl) (by kernel_rfl) (by kernel_rfl) (fun _ _ _ h => h) (Or.inl ⟨by rfl, ?_⟩) hS0 ?_
      rotate_left
      · intro W hSw
        obtain ⟨c0, c1, c2⟩ := (unhide PA).below (unhide LA) hSw
        obtain ⟨d0, d1, d2⟩ := (unhide PB).below (unhide LB) hSw
        dsimp only [Nat.zero_add] at c0 c1 c2 d0 d1 d2
        go_simp
        try with_reducible rfl
      simp only [Act.put, List.setIfInBounds_toArray, List.set_cons_zero, List.set_cons_succ]
      refine wpAnyH_take (i := 5) (oi := { dst := some 25, op := Op.move (Operand.tmp 0), type := 25, pos := "l06_board.go:154", after := #[{ on := 3, ground := Ground.guard }], guard := some (3, true) }) (v := ?_) rfl (by kernel_rfl) (by kernel_rfl) (by kernel_rfl) (fun _ _ _ h => h) (Or.inl ⟨by rfl, ?_⟩) hS0 ?_
      rotate_left
      · intro W hSw
        obtain ⟨c0, c1, c2⟩ := (unhide PA).below (unhide LA) hSw
        obtain ⟨d0, d1, d2⟩ := (unhide PB).below (unhide LB) hSw
        dsimp only [Nat.zero_add] at c0 c1 c2 d0 d1 d2
        go_simp
        try with_reducible rfl
      simp only [Act.put, List.setIfInBounds_toArray, List.set_cons_zero, List.set_cons_succ]
      refine wpAnyH_take (i := 6) (oi := { dst := some 26, op := Op.call { callee := Callee.builtin Builtin.len, args := #[Operand.tmp 25], argTypes := #[25] }, type := 3, pos := "l06_board.go:154", after := #[{ on := 5, ground := Ground.data }, { on := 3, ground := Ground.guard }], guard := some (3, true) }) (v := ?_) rfl (by kernel_rfl) (by kernel_rfl) (by kernel_rfl) (fun _ _ _ h => h) (Or.inl ⟨by rfl, ?_⟩) hS0 ?_
      rotate_left
      · intro W hSw
        obtain ⟨c0, c1, c2⟩ := (unhide PA).below (unhide LA) hSw
        obtain ⟨d0, d1, d2⟩ := (unhide PB).below (unhide LB) hSw
        dsimp only [Nat.zero_add] at c0 c1 c2 d0 d1 d2
        go_simp
        try with_reducible rfl
      simp only [Act.put, List.setIfInBounds_toArray, List.set_cons_zero, List.set_cons_succ]
      refine wpAnyH_take (i := 7) (oi := { dst := some 27, op := Op.binOp BinOp.sub 3 (Operand.tmp 26) (Operand.const (Value.int IntKind.i64 1)) 3, type := 3, pos := "l06_board.go:154", after := #[{ on := 6, ground := Ground.data }, { on := 3, ground := Ground.guard }], guard := some (3, true) }) (v := ?_) rfl (by kernel_rfl) (by kernel_rfl) (by kernel_rfl) (fun _ _ _ h => h) (Or.inl ⟨by rfl, ?_⟩) hS0 ?_
      rotate_left
      · intro W hSw
        obtain ⟨c0, c1, c2⟩ := (unhide PA).below (unhide LA) hSw
        obtain ⟨d0, d1, d2⟩ := (unhide PB).below (unhide LB) hSw
        dsimp only [Nat.zero_add] at c0 c1 c2 d0 d1 d2
        go_simp
        try with_reducible rfl
      simp only [Act.put, List.setIfInBounds_toArray, List.set_cons_zero, List.set_cons_succ]
      refine wpAnyH_take (i := 8) (oi := { dst := some 28, op := Op.indexAddr 25 (Operand.tmp 24) (Operand.tmp 27), type := 0, pos := "l06_board.go:154", after := #[{ on := 4, ground := Ground.data }, { on := 7, ground := Ground.data }, { on := 3, ground := Ground.guard }], guard := some (3, true) }) (v := ?_) rfl (by kernel_rfl) (by kernel_rfl) (by kernel_rfl) (fun _ _ _ h => h) (Or.inl ⟨by rfl, ?_⟩) hS0 ?_
      rotate_left
      · intro W hSw
        obtain ⟨c0, c1, c2⟩ := (unhide PA).below (unhide LA) hSw
        obtain ⟨d0, d1, d2⟩ := (unhide PB).below (unhide LB) hSw
        dsimp only [Nat.zero_add] at c0 c1 c2 d0 d1 d2
        go_simp
        try with_reducible rfl
      simp only [Act.put, List.setIfInBounds_toArray, List.set_cons_zero, List.set_cons_succ]
      refine wpAnyH_take (i := 9) (oi := { dst := some 29, op := Op.load 34 (Operand.tmp 28), type := 34, pos := "l06_board.go:154", after := #[{ on := 8, ground := Ground.data }, { on := 3, ground := Ground.guard }], guard := some (3, true) }) (v := ?_) rfl (by kernel_rfl) (by kernel_rfl) (by kernel_rfl) (fun _ _ _ h => h) (Or.inl ⟨by rfl, ?_⟩) hS0 ?_
      rotate_left
      · intro W hSw
        obtain ⟨c0, c1, c2⟩ := (unhide PA).below (unhide LA) hSw
        obtain ⟨d0, d1, d2⟩ := (unhide PB).below (unhide LB) hSw
        dsimp only [Nat.zero_add] at c0 c1 c2 d0 d1 d2
        go_simp
        try with_reducible rfl
      simp only [Act.put, List.setIfInBounds_toArray, List.set_cons_zero, List.set_cons_succ]
      refine wpAnyH_take (i := 10) (oi := { dst := some 30, op := Op.load 34 (Operand.tmp 3), type := 34, pos := "l06_board.go:154", after := #[{ on := 3, ground := Ground.guard }], guard := some (3, true) }) (v := ?_) rfl (by kernel_rfl) (by kernel_rfl) (by kernel_rfl) (fun _ _ _ h => h) (Or.inl ⟨by rfl, ?_⟩) hS0 ?_
      rotate_left
      · intro W hSw
        obtain ⟨c0, c1, c2⟩ := (unhide PA).below (unhide LA) hSw
        obtain ⟨d0, d1, d2⟩ := (unhide PB).below (unhide LB) hSw
        dsimp only [Nat.zero_add] at c0 c1 c2 d0 d1 d2
        go_simp
        try with_reducible rfl
      simp only [Act.put, List.setIfInBounds_toArray, List.set_cons_zero, List.set_cons_succ]
      refine wpAnyH_one (i := 11) (by kernel_rfl) ?_
      refine wpOp_step (o := { dst := some 31, op := Op.call { callee := Callee.value (Operand.func 20), args := #[Operand.tmp 29, Operand.tmp 30], argTypes := #[34, 34] }, type := 4, pos := "l06_board.go:154", after := #[{ on := 9, ground := Ground.data }, { on := 10, ground := Ground.data }, { on := 3, ground := Ground.chain }, { on := 3, ground := Ground.guard }], guard := some (3, true) }) rfl fun K' hK => step_enterW (by rfl) 20 #[postV (r', l', t'), postV (r, l, t)] (by go_simp) ((unhide L20 _).mono ?_)
      rintro e w6 ⟨rfl, b1⟩
      have s1 := bl_st b1 hS0
      clear b1
      refine ⟨_, rfl, hK _ _ ⟨s1, ?_⟩⟩
      simp only [Act.put, List.setIfInBounds_toArray, List.set_cons_zero, List.set_cons_succ]
      refine wpAnyH_take (i := 12) (oi := { dst := some 32, op := Op.unOp UnOp.not 4 (Operand.tmp 31), type := 4, pos := "l06_board.go:154", after := #[{ on := 11, ground := Ground.data }, { on := 3, ground := Ground.guard }], guard := some (3, true) }) (v := ?_) rfl (by kernel_rfl) (by kernel_rfl) (by kernel_rfl) (fun _ _ _ h => h) (Or.inl ⟨by rfl, ?_⟩) s1 ?_
      rotate_left
      · intro W hSw
        go_simp
        try with_reducible rfl
      simp only [Act.put, List.setIfInBounds_toArray, List.set_cons_zero, List.set_cons_succ]
      refine wpAnyH_take (i := 13) (oi := { dst := some 33, op := Op.pick (Operand.tmp 23) (Operand.tmp 32) (Operand.const (Value.bool false)), type := 4, pos := "l06_board.go:154", after := #[{ on := 3, ground := Ground.data }, { on := 12, ground := Ground.data }], guard := none }) (v := ?_) rfl (by kernel_rfl) (by kernel_rfl) (by kernel_rfl) (fun _ _ _ h => h) (Or.inl ⟨by rfl, ?_⟩) s1 ?_
      rotate_left
      · intro W hSw
        go_simp
        try with_reducible rfl
      simp only [Act.put, List.setIfInBounds_toArray, List.set_cons_zero, List.set_cons_succ]
      refine wpAnyH_done (by kernel_rfl) ?_ _
      have B6 := hide (bl_st s1 (unhide B5))
      have V6 := hide ((unhide V5).below s1)
      have P6 := hide ((unhide PA).below (unhide LA) s1)
      have L6 := hide (Nat.lt_of_lt_of_le (unhide LA) s1.size)
      clear s1 hS0
      clear PA LA V5 B5 PB LB
      go_wp2
      refine wp_region_held (S := fun W' => Below w6.heap.size w6 W') (by kernel_rfl) ?_
      have hS0 : Below w6.heap.size w6 { w6 with drawn := w6.drawn + 1 } := below_drewN (Below.refl _ _) 1
      refine wpAnyH_take (i := 1) (oi := { dst := some 40, op := Op.move (Operand.tmp 0), type := 25, pos := "l06_board.go:160", after := #[], guard := none }) (v := ?_) rfl (by kernel_rfl) (by kernel_rfl) (by kernel_rfl) (fun _ _ _ h => h) (Or.inl ⟨by rfl, ?_⟩) hS0 ?_
      rotate_left
      · intro W hSw
        obtain ⟨c0, c1, c2⟩ := (unhide P6).below (unhide L6) hSw
        dsimp only [Nat.zero_add] at c0 c1 c2
        go_simp
        try with_reducible rfl
      simp only [Act.put, List.setIfInBounds_toArray, List.set_cons_zero, List.set_cons_succ]
      refine wpAnyH_take (i := 3) (oi := { dst := some 42, op := Op.load 34 (Operand.tmp 3), type := 34, pos := "l06_board.go:160", after := #[], guard := none }) (v := ?_) rfl (by kernel_rfl) (by kernel_rfl) (by kernel_rfl) (fun _ _ _ h => h) (Or.inl ⟨by rfl, ?_⟩) hS0 ?_
      rotate_left
      · intro W hSw
        obtain ⟨c0, c1, c2⟩ := (unhide P6).below (unhide L6) hSw
        dsimp only [Nat.zero_add] at c0 c1 c2
        go_simp
        try with_reducible rfl
      simp only [Act.put, List.setIfInBounds_toArray, List.set_cons_zero, List.set_cons_succ]
      generalize ({ w6 with drawn := w6.drawn + 1 } : World) = w7 at *
      refine wpAnyH_two (i := 0) (j := 4) (by kernel_rfl) ?_ ?_
      · have sx0 : Below w6.heap.size w6 ((w7).alloc (.cells #[] 34)) := bl_al hS0
        have Ox0 := hide (own_new (w7) (hS0).size)
        have fx0 : Below (w7).heap.size (w7) ((w7).alloc (.cells #[] 34)) := bl_al (Below.refl _ _)
        refine wpOp_step (o := { dst := some 39, op := Op.buildSlice 25 0 #[], type := 25, pos := "l06_board.go:160", after := #[], guard := none }) rfl fun K' hK => step_valueW (by rfl) (.slice (some ⟨(w7).heap.size, 0, none⟩) 0 0) ((w7).alloc (.cells #[] 34)) (by go_simp) ?_
        refine hK _ _ ⟨sx0, ?_⟩
        simp only [Act.put, List.setIfInBounds_toArray, List.set_cons_zero, List.set_cons_succ]
        have LX : w7.heap.size < ((w7).alloc (.cells #[] 34)).heap.size := by simp
        generalize (w7).alloc (.cells #[] 34) = x0 at *
        refine wpAnyH_two (i := 2) (j := 4) (by kernel_rfl) ?_ ?_
        · refine wpOp_step (o := { dst := some 41, op := Op.call { callee := Callee.builtin Builtin.append, args := #[Operand.tmp 39, Operand.tmp 40], argTypes := #[25, 25] }, type := 25, pos := "l06_board.go:160", after := #[{ on := 0, ground := Ground.data }, { on := 1, ground := Ground.data }], guard := none }) rfl fun K' hK => step_append_posts x0 rfl _ _ rfl w6.heap.size 0 _ [] rfl (unhide Ox0) ⟨_, _, rfl⟩ _ ps rfl ((unhide V6).below sx0) (by have := unhide HL; omega) (sx0).size ?_
          intro gx1 cx1 x1 ox1 grx1
          have sx1 : Below w6.heap.size w6 x1 := below_grown sx0 grx1 (sx0).size (unhide Ox0)
          refine hK _ _ ⟨sx1, ?_⟩
          simp only [Act.put, List.setIfInBounds_toArray, List.set_cons_zero, List.set_cons_succ]
          refine wpAnyH_one (i := 4) (by kernel_rfl) ?_
          have sx2 : Below w6.heap.size w6 ((x1).alloc (.cells #[.int .i64 r, .int .i64 l, .string t] 34)) := bl_al sx1
          have Ux2 := hide (posts_one (heap_at (x1) (.cells #[.int .i64 r, .int .i64 l, .string t] 34) _ rfl))
          have fx2 : Below (x1).heap.size (x1) ((x1).alloc (.cells #[.int .i64 r, .int .i64 l, .string t] 34)) := bl_al (Below.refl _ _)
          refine wpOp_step (o := { dst := some 43, op := Op.buildSlice 25 1 #[(0, Operand.tmp 42)], type := 25, pos := "l06_board.go:160", after := #[{ on := 3, ground := Ground.data }], guard := none }) rfl fun K' hK => step_valueW (by rfl) (.slice (some ⟨(x1).heap.size, 0, none⟩) 1 1) ((x1).alloc (.cells #[.int .i64 r, .int .i64 l, .string t] 34)) (by go_simp) ?_
          refine hK _ _ ⟨sx2, ?_⟩
          simp only [Act.put, List.setIfInBounds_toArray, List.set_cons_zero, List.set_cons_succ]
          generalize (x1).alloc (.cells #[.int .i64 r, .int .i64 l, .string t] 34) = x2 at *
          refine wpAnyH_one (i := 5) (by kernel_rfl) ?_
          refine wpOp_step (o := { dst := some 44, op := Op.call { callee := Callee.builtin Builtin.append, args := #[Operand.tmp 41, Operand.tmp 43], argTypes := #[25, 25] }, type := 25, pos := "l06_board.go:160", after := #[{ on := 2, ground := Ground.data }, { on := 4, ground := Ground.data }, { on := 2, ground := Ground.chain }], guard := none }) rfl fun K' hK => step_append_posts x2 rfl _ _ rfl w6.heap.size (0 + ps.length) _ ([] ++ ps) rfl (own_below ox1 fx2) ⟨_, _, rfl⟩ _ [(r, l, t)] rfl (unhide Ux2) (by have := unhide HL; simp; omega) (sx2).size ?_
          intro gx3 cx3 x3 ox3 grx3
          have sx3 : Below w6.heap.size w6 x3 := below_grown sx2 grx3 (sx2).size (own_below ox1 fx2)
          refine hK _ _ ⟨sx3, ?_⟩
          simp only [Act.put, List.setIfInBounds_toArray, List.set_cons_zero, List.set_cons_succ]
          refine wpAnyH_take (i := 6) (oi := { dst := some 4, op := Op.assign (Operand.tmp 44), type := 25, pos := "l06_board.go:160", after := #[{ on := 5, ground := Ground.data }, { on := 5, ground := Ground.chain }, { on := 0, ground := Ground.phase }, { on := 1, ground := Ground.phase }, { on := 2, ground := Ground.phase }, { on := 3, ground := Ground.phase }, { on := 4, ground := Ground.phase }, { on := 5, ground := Ground.phase }], guard := none }) (v := ?_) rfl (by kernel_rfl) (by kernel_rfl) (by kernel_rfl) (fun _ _ _ h => h) (Or.inl ⟨by rfl, ?_⟩) sx3 ?_
          rotate_left
          · intro W hSw
            go_simp
            try with_reducible rfl
          simp only [Act.put, List.setIfInBounds_toArray, List.set_cons_zero, List.set_cons_succ]
          refine wpAnyH_take (i := 7) (oi := { dst := some 5, op := Op.assign (Operand.const (Value.int IntKind.i64 0)), type := 3, pos := "l06_board.go:160", after := #[{ on := 6, ground := Ground.chain }, { on := 0, ground := Ground.phase }, { on := 1, ground := Ground.phase }, { on := 2, ground := Ground.phase }, { on := 3, ground := Ground.phase }, { on := 4, ground := Ground.phase }, { on := 5, ground := Ground.phase }, { on := 6, ground := Ground.phase }], guard := none }) (v := ?_) rfl (by kernel_rfl) (by kernel_rfl) (by kernel_rfl) (fun _ _ _ h => h) (Or.inl ⟨by rfl, ?_⟩) sx3 ?_
          rotate_left
          · intro W hSw
            go_simp
            try with_reducible rfl
          simp only [Act.put, List.setIfInBounds_toArray, List.set_cons_zero, List.set_cons_succ]
          refine wpAnyH_done (by kernel_rfl) ?_ _
          have oo := (own_own ox3 ⟨_, _, rfl⟩).wide (unhide B6).size (Nat.le_refl _)
          rw [List.nil_append, Nat.zero_add, List.length_singleton] at oo
          have OO := hide oo
          have BB := hide (bl_st sx3 (unhide B6))
          go_wp2
          go_ret2
          exact ⟨_, by rw [unhide HR]; rfl, by rw [unhide HR]; exact unhide OO, unhide BB⟩
        · have sx1 : Below w6.heap.size w6 ((x0).alloc (.cells #[.int .i64 r, .int .i64 l, .string t] 34)) := bl_al sx0
          have Ux1 := hide (posts_one (heap_at (x0) (.cells #[.int .i64 r, .int .i64 l, .string t] 34) _ rfl))
          have fx1 : Below (x0).heap.size (x0) ((x0).alloc (.cells #[.int .i64 r, .int .i64 l, .string t] 34)) := bl_al (Below.refl _ _)
          refine wpOp_step (o := { dst := some 43, op := Op.buildSlice 25 1 #[(0, Operand.tmp 42)], type := 25, pos := "l06_board.go:160", after := #[{ on := 3, ground := Ground.data }], guard := none }) rfl fun K' hK => step_valueW (by rfl) (.slice (some ⟨(x0).heap.size, 0, none⟩) 1 1) ((x0).alloc (.cells #[.int .i64 r, .int .i64 l, .string t] 34)) (by go_simp) ?_
          refine hK _ _ ⟨sx1, ?_⟩
          simp only [Act.put, List.setIfInBounds_toArray, List.set_cons_zero, List.set_cons_succ]
          generalize (x0).alloc (.cells #[.int .i64 r, .int .i64 l, .string t] 34) = x1 at *
          have Oq := hide (own_below (unhide Ox0) fx1)
          have NE : (some w7.heap.size : Option Nat) ≠ some x0.heap.size := fun e => by have := LX; simp only [Option.some.injEq] at e; omega
          refine wpAnyH_one (i := 2) (by kernel_rfl) ?_
          refine wpOp_step (o := { dst := some 41, op := Op.call { callee := Callee.builtin Builtin.append, args := #[Operand.tmp 39, Operand.tmp 40], argTypes := #[25, 25] }, type := 25, pos := "l06_board.go:160", after := #[{ on := 0, ground := Ground.data }, { on := 1, ground := Ground.data }], guard := none }) rfl fun K' hK => step_append_posts x1 rfl _ _ rfl w6.heap.size 0 _ [] rfl (unhide Oq) ⟨_, _, rfl⟩ _ ps rfl ((unhide V6).below sx1) (by have := unhide HL; omega) (sx1).size ?_
          intro gx2 cx2 x2 ox2 grx2
          have sx2 : Below w6.heap.size w6 x2 := below_grown sx1 grx2 (sx1).size (unhide Oq)
          refine hK _ _ ⟨sx2, ?_⟩
          simp only [Act.put, List.setIfInBounds_toArray, List.set_cons_zero, List.set_cons_succ]
          refine wpAnyH_one (i := 5) (by kernel_rfl) ?_
          refine wpOp_step (o := { dst := some 44, op := Op.call { callee := Callee.builtin Builtin.append, args := #[Operand.tmp 41, Operand.tmp 43], argTypes := #[25, 25] }, type := 25, pos := "l06_board.go:160", after := #[{ on := 2, ground := Ground.data }, { on := 4, ground := Ground.data }, { on := 2, ground := Ground.chain }], guard := none }) rfl fun K' hK => step_append_posts x2 rfl _ _ rfl w6.heap.size (0 + ps.length) _ ([] ++ ps) rfl ox2 ⟨_, _, rfl⟩ _ [(r, l, t)] rfl ((unhide Ux1).grown grx2 (fun e => NE e)) (by have := unhide HL; simp; omega) (sx2).size ?_
          intro gx3 cx3 x3 ox3 grx3
          have sx3 : Below w6.heap.size w6 x3 := below_grown sx2 grx3 (sx2).size ox2
          refine hK _ _ ⟨sx3, ?_⟩
          simp only [Act.put, List.setIfInBounds_toArray, List.set_cons_zero, List.set_cons_succ]
          refine wpAnyH_take (i := 6) (oi := { dst := some 4, op := Op.assign (Operand.tmp 44), type := 25, pos := "l06_board.go:160", after := #[{ on := 5, ground := Ground.data }, { on := 5, ground := Ground.chain }, { on := 0, ground := Ground.phase }, { on := 1, ground := Ground.phase }, { on := 2, ground := Ground.phase }, { on := 3, ground := Ground.phase }, { on := 4, ground := Ground.phase }, { on := 5, ground := Ground.phase }], guard := none }) (v := ?_) rfl (by kernel_rfl) (by kernel_rfl) (by kernel_rfl) (fun _ _ _ h => h) (Or.inl ⟨by rfl, ?_⟩) sx3 ?_
          rotate_left
          · intro W hSw
            go_simp
            try with_reducible rfl
          simp only [Act.put, List.setIfInBounds_toArray, List.set_cons_zero, List.set_cons_succ]
          refine wpAnyH_take (i := 7) (oi := { dst := some 5, op := Op.assign (Operand.const (Value.int IntKind.i64 0)), type := 3, pos := "l06_board.go:160", after := #[{ on := 6, ground := Ground.chain }, { on := 0, ground := Ground.phase }, { on := 1, ground := Ground.phase }, { on := 2, ground := Ground.phase }, { on := 3, ground := Ground.phase }, { on := 4, ground := Ground.phase }, { on := 5, ground := Ground.phase }, { on := 6, ground := Ground.phase }], guard := none }) (v := ?_) rfl (by kernel_rfl) (by kernel_rfl) (by kernel_rfl) (fun _ _ _ h => h) (Or.inl ⟨by rfl, ?_⟩) sx3 ?_
          rotate_left
          · intro W hSw
            go_simp
            try with_reducible rfl
          simp only [Act.put, List.setIfInBounds_toArray, List.set_cons_zero, List.set_cons_succ]
          refine wpAnyH_done (by kernel_rfl) ?_ _
          have oo := (own_own ox3 ⟨_, _, rfl⟩).wide (unhide B6).size (Nat.le_refl _)
          rw [List.nil_append, Nat.zero_add, List.length_singleton] at oo
          have OO := hide oo
          have BB := hide (bl_st sx3 (unhide B6))
          go_wp2
          go_ret2
          exact ⟨_, by rw [unhide HR]; rfl, by rw [unhide HR]; exact unhide OO, unhide BB⟩
      · have sx0 : Below w6.heap.size w6 ((w7).alloc (.cells #[.int .i64 r, .int .i64 l, .string t] 34)) := bl_al hS0
        have Ux0 := hide (posts_one (heap_at (w7) (.cells #[.int .i64 r, .int .i64 l, .string t] 34) _ rfl))
        have fx0 : Below (w7).heap.size (w7) ((w7).alloc (.cells #[.int .i64 r, .int .i64 l, .string t] 34)) := bl_al (Below.refl _ _)
        refine wpOp_step (o := { dst := some 43, op := Op.buildSlice 25 1 #[(0, Operand.tmp 42)], type := 25, pos := "l06_board.go:160", after := #[{ on := 3, ground := Ground.data }], guard := none }) rfl fun K' hK => step_valueW (by rfl) (.slice (some ⟨(w7).heap.size, 0, none⟩) 1 1) ((w7).alloc (.cells #[.int .i64 r, .int .i64 l, .string t] 34)) (by go_simp) ?_
        refine hK _ _ ⟨sx0, ?_⟩
        simp only [Act.put, List.setIfInBounds_toArray, List.set_cons_zero, List.set_cons_succ]
        have LX : w7.heap.size < ((w7).alloc (.cells #[.int .i64 r, .int .i64 l, .string t] 34)).heap.size := by simp
        generalize (w7).alloc (.cells #[.int .i64 r, .int .i64 l, .string t] 34) = x0 at *
        refine wpAnyH_one (i := 0) (by kernel_rfl) ?_
        have sx1 : Below w6.heap.size w6 ((x0).alloc (.cells #[] 34)) := bl_al sx0
        have Ox1 := hide (own_new (x0) (sx0).size)
        have fx1 : Below (x0).heap.size (x0) ((x0).alloc (.cells #[] 34)) := bl_al (Below.refl _ _)
        refine wpOp_step (o := { dst := some 39, op := Op.buildSlice 25 0 #[], type := 25, pos := "l06_board.go:160", after := #[], guard := none }) rfl fun K' hK => step_valueW (by rfl) (.slice (some ⟨(x0).heap.size, 0, none⟩) 0 0) ((x0).alloc (.cells #[] 34)) (by go_simp) ?_
        refine hK _ _ ⟨sx1, ?_⟩
        simp only [Act.put, List.setIfInBounds_toArray, List.set_cons_zero, List.set_cons_succ]
        generalize (x0).alloc (.cells #[] 34) = x1 at *
        have NE : (some x0.heap.size : Option Nat) ≠ some w7.heap.size := fun e => by simp only [Option.some.injEq] at e; omega
        refine wpAnyH_one (i := 2) (by kernel_rfl) ?_
        refine wpOp_step (o := { dst := some 41, op := Op.call { callee := Callee.builtin Builtin.append, args := #[Operand.tmp 39, Operand.tmp 40], argTypes := #[25, 25] }, type := 25, pos := "l06_board.go:160", after := #[{ on := 0, ground := Ground.data }, { on := 1, ground := Ground.data }], guard := none }) rfl fun K' hK => step_append_posts x1 rfl _ _ rfl w6.heap.size 0 _ [] rfl (unhide Ox1) ⟨_, _, rfl⟩ _ ps rfl ((unhide V6).below sx1) (by have := unhide HL; omega) (sx1).size ?_
        intro gx2 cx2 x2 ox2 grx2
        have sx2 : Below w6.heap.size w6 x2 := below_grown sx1 grx2 (sx1).size (unhide Ox1)
        refine hK _ _ ⟨sx2, ?_⟩
        simp only [Act.put, List.setIfInBounds_toArray, List.set_cons_zero, List.set_cons_succ]
        refine wpAnyH_one (i := 5) (by kernel_rfl) ?_
        refine wpOp_step (o := { dst := some 44, op := Op.call { callee := Callee.builtin Builtin.append, args := #[Operand.tmp 41, Operand.tmp 43], argTypes := #[25, 25] }, type := 25, pos := "l06_board.go:160", after := #[{ on := 2, ground := Ground.data }, { on := 4, ground := Ground.data }, { on := 2, ground := Ground.chain }], guard := none }) rfl fun K' hK => step_append_posts x2 rfl _ _ rfl w6.heap.size (0 + ps.length) _ ([] ++ ps) rfl ox2 ⟨_, _, rfl⟩ _ [(r, l, t)] rfl (((unhide Ux0).below fx1).grown grx2 (fun e => NE e)) (by have := unhide HL; simp; omega) (sx2).size ?_
        intro gx3 cx3 x3 ox3 grx3
        have sx3 : Below w6.heap.size w6 x3 := below_grown sx2 grx3 (sx2).size ox2
        refine hK _ _ ⟨sx3, ?_⟩
        simp only [Act.put, List.setIfInBounds_toArray, List.set_cons_zero, List.set_cons_succ]
        refine wpAnyH_take (i := 6) (oi := { dst := some 4, op := Op.assign (Operand.tmp 44), type := 25, pos := "l06_board.go:160", after := #[{ on := 5, ground := Ground.data }, { on := 5, ground := Ground.chain }, { on := 0, ground := Ground.phase }, { on := 1, ground := Ground.phase }, { on := 2, ground := Ground.phase }, { on := 3, ground := Ground.phase }, { on := 4, ground := Ground.phase }, { on := 5, ground := Ground.phase }], guard := none }) (v := ?_) rfl (by kernel_rfl) (by kernel_rfl) (by kernel_rfl) (fun _ _ _ h => h) (Or.inl ⟨by rfl, ?_⟩) sx3 ?_
        rotate_left
        · intro W hSw
          go_simp
          try with_reducible rfl
        simp only [Act.put, List.setIfInBounds_toArray, List.set_cons_zero, List.set_cons_succ]
        refine wpAnyH_take (i := 7) (oi := { dst := some 5, op := Op.assign (Operand.const (Value.int IntKind.i64 0)), type := 3, pos := "l06_board.go:160", after := #[{ on := 6, ground := Ground.chain }, { on := 0, ground := Ground.phase }, { on := 1, ground := Ground.phase }, { on := 2, ground := Ground.phase }, { on := 3, ground := Ground.phase }, { on := 4, ground := Ground.phase }, { on := 5, ground := Ground.phase }, { on := 6, ground := Ground.phase }], guard := none }) (v := ?_) rfl (by kernel_rfl) (by kernel_rfl) (by kernel_rfl) (fun _ _ _ h => h) (Or.inl ⟨by rfl, ?_⟩) sx3 ?_
        rotate_left
        · intro W hSw
          go_simp
          try with_reducible rfl
        simp only [Act.put, List.setIfInBounds_toArray, List.set_cons_zero, List.set_cons_succ]
        refine wpAnyH_done (by kernel_rfl) ?_ _
        have oo := (own_own ox3 ⟨_, _, rfl⟩).wide (unhide B6).size (Nat.le_refl _)
        rw [List.nil_append, Nat.zero_add, List.length_singleton] at oo
        have OO := hide oo
        have BB := hide (bl_st sx3 (unhide B6))
        go_wp2
        go_ret2
        exact ⟨_, by rw [unhide HR]; rfl, by rw [unhide HR]; exact unhide OO, unhide BB⟩
end Go.Proofs.Ytgjkflhpnppkbaa
