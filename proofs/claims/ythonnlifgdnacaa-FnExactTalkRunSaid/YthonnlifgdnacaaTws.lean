/- Two who talk, in one block: eight cells; copied. -/
import Derived.Test.YthonnlifgdnacaaInp
namespace Go.Proofs.Ythonnlifgdnacaa
open Go.RowKit
set_option maxHeartbeats 4000000
set_option maxRecDepth 20000
/-- two peers in block g, cell by cell, and what lies behind them -/
def row8 (W : World) (g : Nat) (a0 a1 a2 a3 a4 a5 a6 a7 : Value) (rest : List Value) : Prop := W.heap[g]? = some (.cells ([a0, a1, a2, a3, a4, a5, a6, a7] ++ rest).toArray 33 (0, 0))
section
variable {W : World} {g : Nat} {a0 a1 a2 a3 a4 a5 a6 a7 : Value} {rest : List Value}
theorem row8.lt (h : row8 W g a0 a1 a2 a3 a4 a5 a6 a7 rest) : g < W.heap.size := (Array.getElem?_eq_some_iff.1 h).1
theorem row8.c0 (h : row8 W g a0 a1 a2 a3 a4 a5 a6 a7 rest) : W.cell? ⟨g, 0, none⟩ = some a0 := by rw [row_cell h]; rfl
theorem row8.c1 (h : row8 W g a0 a1 a2 a3 a4 a5 a6 a7 rest) : W.cell? ⟨g, 1, none⟩ = some a1 := by rw [row_cell h]; rfl
theorem row8.c2 (h : row8 W g a0 a1 a2 a3 a4 a5 a6 a7 rest) : W.cell? ⟨g, 2, none⟩ = some a2 := by rw [row_cell h]; rfl
theorem row8.c3 (h : row8 W g a0 a1 a2 a3 a4 a5 a6 a7 rest) : W.cell? ⟨g, 3, none⟩ = some a3 := by rw [row_cell h]; rfl
theorem row8.c4 (h : row8 W g a0 a1 a2 a3 a4 a5 a6 a7 rest) : W.cell? ⟨g, 4, none⟩ = some a4 := by rw [row_cell h]; rfl
theorem row8.c5 (h : row8 W g a0 a1 a2 a3 a4 a5 a6 a7 rest) : W.cell? ⟨g, 5, none⟩ = some a5 := by rw [row_cell h]; rfl
theorem row8.c6 (h : row8 W g a0 a1 a2 a3 a4 a5 a6 a7 rest) : W.cell? ⟨g, 6, none⟩ = some a6 := by rw [row_cell h]; rfl
theorem row8.c7 (h : row8 W g a0 a1 a2 a3 a4 a5 a6 a7 rest) : W.cell? ⟨g, 7, none⟩ = some a7 := by rw [row_cell h]; rfl
theorem row8.fz (h : row8 W g a0 a1 a2 a3 a4 a5 a6 a7 rest) (i : Nat) : W.frozen? ⟨g, i, none⟩ = false := row_free h
theorem row8.below {W' : World} (h : row8 W g a0 a1 a2 a3 a4 a5 a6 a7 rest) (hb : Below W.heap.size W W') : row8 W' g a0 a1 a2 a3 a4 a5 a6 a7 rest := (hb.block g h.lt).trans h
theorem row8.lone {W' : World} {q : Nat} (h : row8 W g a0 a1 a2 a3 a4 a5 a6 a7 rest) (hl : Lone q W W') (hq : g ≠ q) : row8 W' g a0 a1 a2 a3 a4 a5 a6 a7 rest := (hl.block g h.lt hq).trans h
theorem row8.put0 (h : row8 W g a0 a1 a2 a3 a4 a5 a6 a7 rest) (b0 b1 b2 b3 : Value) : row8 ((((W.setCell ⟨g, 0, none⟩ b0).setCell ⟨g, 1, none⟩ b1).setCell ⟨g, 2, none⟩ b2).setCell ⟨g, 3, none⟩ b3) g b0 b1 b2 b3 a4 a5 a6 a7 rest := by
  have := row_set (i := 3) (v := b3) (row_set (i := 2) (v := b2) (row_set (i := 1) (v := b1) (row_set (i := 0) (v := b0) h)))
  simpa [row8] using this
theorem row8.put4 (h : row8 W g a0 a1 a2 a3 a4 a5 a6 a7 rest) (b0 b1 b2 b3 : Value) : row8 ((((W.setCell ⟨g, 4, none⟩ b0).setCell ⟨g, 5, none⟩ b1).setCell ⟨g, 6, none⟩ b2).setCell ⟨g, 7, none⟩ b3) g a0 a1 a2 a3 b0 b1 b2 b3 rest := by
  have := row_set (i := 7) (v := b3) (row_set (i := 6) (v := b2) (row_set (i := 5) (v := b1) (row_set (i := 4) (v := b0) h)))
  simpa [row8] using this
theorem row8.set0 (h : row8 W g a0 a1 a2 a3 a4 a5 a6 a7 rest) (b0 : Value) : row8 (W.setCell ⟨g, 0, none⟩ b0) g b0 a1 a2 a3 a4 a5 a6 a7 rest := by
  have := row_set (i := 0) (v := b0) h
  simpa [row8] using this
theorem row8.set4 (h : row8 W g a0 a1 a2 a3 a4 a5 a6 a7 rest) (b0 : Value) : row8 (W.setCell ⟨g, 4, none⟩ b0) g a0 a1 a2 a3 b0 a5 a6 a7 rest := by
  have := row_set (i := 4) (v := b0) h
  simpa [row8] using this
end
theorem lone_put (W : World) (g i j k l : Nat) (b0 b1 b2 b3 : Value) : Lone g W ((((W.setCell ⟨g, i, none⟩ b0).setCell ⟨g, j, none⟩ b1).setCell ⟨g, k, none⟩ b2).setCell ⟨g, l, none⟩ b3) :=
  (((lone_setCell g i W _).trans (lone_setCell g j _ _)).trans (lone_setCell g k _ _)).trans (lone_setCell g l _ _)
theorem size_put (W : World) (g i j k l : Nat) (b0 b1 b2 b3 : Value) : ((((W.setCell ⟨g, i, none⟩ b0).setCell ⟨g, j, none⟩ b1).setCell ⟨g, k, none⟩ b2).setCell ⟨g, l, none⟩ b3).heap.size = W.heap.size := by
  rw [size_set, size_set, size_set, size_set]
/-- a list of two peers, as a value -/
def twV (W : World) (v : Value) (z : Tw) : Prop :=
  ∃ g c q0 i0 q1 i1 rest, v = .slice (some ⟨g, 0, none⟩) 2 c ∧ 2 ≤ c ∧ row8 W g q0 (.int .i64 z.x.s) (.int .i64 z.x.e) i0 q1 (.int .i64 z.y.s) (.int .i64 z.y.e) i1 rest ∧
    peV W (peA q0 z.x.s z.x.e i0) z.x ∧ capQ (peA q0 z.x.s z.x.e i0) z.x ∧ peV W (peA q1 z.y.s z.y.e i1) z.y ∧ capQ (peA q1 z.y.s z.y.e i1) z.y
theorem twV.below {W W' : World} {v : Value} {z : Tw} (h : twV W v z) (hb : Below W.heap.size W W') : twV W' v z := by
  obtain ⟨g, c, q0, i0, q1, i1, rest, e, h1, h2, h3, h4, h5, h6⟩ := h
  exact ⟨g, c, q0, i0, q1, i1, rest, e, h1, h2.below hb, h3.below hb, h4, h5.below hb, h6⟩
theorem info33 : (Try.prog.info? 33).map (fun i => (i.zero, i.size, i.bytes)) = some (some (.agg #[.slice none 0 0, .int .i64 0, .int .i64 0, .slice none 0 0]), 4, 64) := by kernel_rfl
/-- append([]Peer{}, list...) of two -/
theorem run_copy8 (W : World) (ty G g c : Nat) (hG : G = W.heap.size) (a0 a1 a2 a3 a4 a5 a6 a7 : Value) (rest : List Value) (h : row8 W g a0 a1 a2 a3 a4 a5 a6 a7 rest) (h1 : ∀ u ∈ [a0, a1, a2, a3, a4, a5, a6, a7], u.oneCell' = true) :
    ∃ (g' c' : Nat) (w' : World) (rest' : List Value), (Builtin.append_ #[25, 25] ty #[.slice (some ⟨G, 0, none⟩) 0 0, .slice (some ⟨g, 0, none⟩) 2 c]).run Try.prog (W.alloc (.cells #[] 33)) = .ok (.slice (some ⟨g', 0, none⟩) 2 c') w' ∧ Below W.heap.size W w' ∧ row8 w' g' a0 a1 a2 a3 a4 a5 a6 a7 rest' ∧ W.heap.size ≤ g' ∧ 2 ≤ c' := by
  subst hG
  obtain ⟨i0, hi0, hz0, hz1, hz2⟩ := info_parts info33
  have hr : row8 (W.alloc (.cells #[] 33)) g a0 a1 a2 a3 a4 a5 a6 a7 rest := h.below (bl_al (Below.refl _ _))
  obtain ⟨g', c', w', e1, e2, e3, e4, e5⟩ := run_append_lies (P := Try.prog) (W.alloc (.cells #[] 33)) 25 ty W.heap.size 33 i0 _ 4 64 Try.underlying25 hi0 hz0 hz1 hz2 rfl (by omega) (.slice (some ⟨W.heap.size, 0, none⟩) 0 0) 0 [] (World.ownsRow_made _ #[] 0 (Nat.le_refl _) (Nat.zero_le _) rfl) ⟨g, 0, none⟩ 2 c [a0, a1, a2, a3, a4, a5, a6, a7] rfl
    (fun j u hj => by
      have hj8 : j < 8 := by
        rcases Nat.lt_or_ge j 8 with h | h
        · exact h
        · rw [List.getElem?_eq_none (by simpa using h)] at hj; cases hj
      rw [Addr.add_lit, Nat.zero_add, row_cell hr, List.getElem?_toArray, List.getElem?_append_left (by simpa using hj8)]
      exact hj) h1 (by omega) (by unfold maxLen; omega) (by omega) (by simp) _ rfl
  rw [Nat.zero_add] at e1 e2
  refine ⟨g', c', w', ?_⟩
  obtain ⟨_, ⟨e, _⟩ | ⟨g2, cap, cur, e, hb, hc, h2, _, h3, h4⟩⟩ := e2
  · cases e
  · have x1 : g' = g2 := Option.some.inj (show some g' = some g2 from congrArg Value.ownBlock e)
    have x2 : c' = cap := (Value.slice.inj e).2.2
    subst x1 x2
    refine ⟨cur.toList.drop 8, e1, Below.grown ((Below.refl _ _).alloc (Nat.le_refl _) _) e3 (by simp) (by simp [Value.ownBlock]), ?_, hb, h2⟩
    unfold row8
    rw [hc]
    simp only [List.nil_append] at h4
    have : [a0, a1, a2, a3, a4, a5, a6, a7] ++ cur.toList.drop 8 = cur.toList := by
      rw [← h4]
      exact List.take_append_drop 8 cur.toList
    rw [this]
theorem wpList_copy8 (W : World) {ops : Array Oper} {rst : List Oper} {o : Oper} {a : Act} {Q : Exit → Act → World → Prop} (hgd : o.guard = none) (s x : Operand)
    (ho : o.op = .call { callee := .builtin .append, args := #[s, x], argTypes := #[25, 25] })
    (G g c : Nat) (hG : G = W.heap.size) (a0 a1 a2 a3 a4 a5 a6 a7 : Value) (rest : List Value) (hs : a.eval s = .slice (some ⟨G, 0, none⟩) 0 0) (hx : a.eval x = .slice (some ⟨g, 0, none⟩) 2 c) (h : row8 W g a0 a1 a2 a3 a4 a5 a6 a7 rest) (h1 : ∀ u ∈ [a0, a1, a2, a3, a4, a5, a6, a7], u.oneCell' = true)
    (hk : ∀ (g' c' : Nat) (w' : World) (rest' : List Value), Below W.heap.size W w' → row8 w' g' a0 a1 a2 a3 a4 a5 a6 a7 rest' → W.heap.size ≤ g' → 2 ≤ c' → wpList Try.prog ops Q rst (a.put o.dst (.slice (some ⟨g', 0, none⟩) 2 c')) w') : wpList Try.prog ops Q (o :: rst) a (W.alloc (.cells #[] 33)) :=
  wpList_plain hgd fun K hK => by
    obtain ⟨g', c', w', rest', hr, h2, h3, h4, h5⟩ := run_copy8 W o.type G g c hG a0 a1 a2 a3 a4 a5 a6 a7 rest h h1
    unfold Oper.wp execOp
    simp only [ho, resolve, invoke, builtin, Sem.run_bind, Sem.run_pure, Result.andThen_ok, List.map_toArray, List.map_cons, List.map_nil, hs, hx, hr]
    exact hK _ _ (hk g' c' w' rest' h2 h3 h4 h5)
/-- an act, as a value -/
abbrev taA (k w : Int) (t : ByteArray) (la lb : Bool) : Value := .agg #[.int .i64 k, .int .i64 w, .string t, .bool la, .bool lb]
abbrev taV (a : Ta) : Value := taA a.k a.w a.t a.la a.lb
end Go.Proofs.Ythonnlifgdnacaa
