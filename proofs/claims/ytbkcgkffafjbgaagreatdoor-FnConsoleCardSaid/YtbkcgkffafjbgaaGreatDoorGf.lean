/- Where lists of peers lie, and what a store leaves of them. -/
import Derived.Test.YtbkcgkffafjbgaaGreatDoorInp
/- Two who talk, in one block: eight cells; copied. -/
namespace Go.Proofs.YtbkcgkffafjbgaaGreatDoor
open Go.RowKit
set_option maxHeartbeats 4000000
set_option maxRecDepth 20000
/-- two peers in block g, cell by cell, and what lies behind them -/
def row8 (W : World) (g : Nat) (a0 a1 a2 a3 a4 a5 a6 a7 : Value) (rest : List Value) : Prop := W.heap[g]? = some (.cells ([a0, a1, a2, a3, a4, a5, a6, a7] ++ rest).toArray 53 (0, 0))
section
variable {W : World} {g : Nat} {a0 a1 a2 a3 a4 a5 a6 a7 : Value} {rest : List Value}
theorem row8.lt (h : row8 W g a0 a1 a2 a3 a4 a5 a6 a7 rest) : g < W.heap.size := (Array.getElem?_eq_some_iff.1 h).1
theorem row8.c0 (h : row8 W g a0 a1 a2 a3 a4 a5 a6 a7 rest) : W.cell? ⟨g, 0, none⟩ = some a0 := by rw [row_cell h]; rfl
theorem row8.c1 (h : row8 W g a0 a1 a2 a3 a4 a5 a6 a7 rest) : W.cell? ⟨g, 1, none⟩ = some a1 := by rw [row_cell h]; rfl
theorem row8.c2 (h : row8 W g a0 a1 a2 a3 a4 a5 a6 a7 rest) : W.cell? ⟨g, 2, none⟩ = some a2 := by rw [row_cell h]; rfl
theorem row8.c3 (h : row8 W g a0 a1 a2 a3 a4 a5 a6 a7 rest) : W.cell? ⟨g, 3, none⟩ = some a3 := by rw [row_cell h]; rfl
theorem row8.c4 (h : row8 W g a0 a1 a2 a3 a4 a5 a6 a7 rest) : W.cell? ⟨g, 4, none⟩ = some a4 := by rw [row_cell h]; rfl
theorem row8.c5 (h : row8 W g a0 a1 a2 a3 a4 a5 a6 a7 rest) : W.cell? ⟨g, 5, none⟩ = some a5 := by rw [row_cell h]; rfl
theorem row8.c6 (h : row8 W g a0 a1 a2 a3 a4 a5 a6 a7 rest) : W.cell? ⟨g, 6, none⟩ = some a6 := by rw [row_cell h]; rfl
theorem row8.c7 (h : row8 W g a0 a1 a2 a3 a4 a5 a6 a7 rest) : W.cell? ⟨g, 7, none⟩ = some a7 := by rw [row_cell h]; rfl
theorem row8.fz (h : row8 W g a0 a1 a2 a3 a4 a5 a6 a7 rest) (i : Nat) : W.frozen? ⟨g, i, none⟩ = false := row_free h
theorem row8.below {W' : World} (h : row8 W g a0 a1 a2 a3 a4 a5 a6 a7 rest) (hb : Below W.heap.size W W') : row8 W' g a0 a1 a2 a3 a4 a5 a6 a7 rest := (hb.block g h.lt).trans h
theorem row8.lone {W' : World} {q : Nat} (h : row8 W g a0 a1 a2 a3 a4 a5 a6 a7 rest) (hl : Lone q W W') (hq : g ≠ q) : row8 W' g a0 a1 a2 a3 a4 a5 a6 a7 rest := (hl.block g h.lt hq).trans h
theorem row8.put0 (h : row8 W g a0 a1 a2 a3 a4 a5 a6 a7 rest) (b0 b1 b2 b3 : Value) : row8 ((((W.setCell ⟨g, 0, none⟩ b0).setCell ⟨g, 1, none⟩ b1).setCell ⟨g, 2, none⟩ b2).setCell ⟨g, 3, none⟩ b3) g b0 b1 b2 b3 a4 a5 a6 a7 rest := by
  have := row_set (i := 3) (v := b3) (row_set (i := 2) (v := b2) (row_set (i := 1) (v := b1) (row_set (i := 0) (v := b0) h)))
  simpa [row8] using this
theorem row8.put4 (h : row8 W g a0 a1 a2 a3 a4 a5 a6 a7 rest) (b0 b1 b2 b3 : Value) : row8 ((((W.setCell ⟨g, 4, none⟩ b0).setCell ⟨g, 5, none⟩ b1).setCell ⟨g, 6, none⟩ b2).setCell ⟨g, 7, none⟩ b3) g a0 a1 a2 a3 b0 b1 b2 b3 rest := by
  have := row_set (i := 7) (v := b3) (row_set (i := 6) (v := b2) (row_set (i := 5) (v := b1) (row_set (i := 4) (v := b0) h)))
  simpa [row8] using this
theorem row8.set0 (h : row8 W g a0 a1 a2 a3 a4 a5 a6 a7 rest) (b0 : Value) : row8 (W.setCell ⟨g, 0, none⟩ b0) g b0 a1 a2 a3 a4 a5 a6 a7 rest := by
  have := row_set (i := 0) (v := b0) h
  simpa [row8] using this
theorem row8.set4 (h : row8 W g a0 a1 a2 a3 a4 a5 a6 a7 rest) (b0 : Value) : row8 (W.setCell ⟨g, 4, none⟩ b0) g a0 a1 a2 a3 b0 a5 a6 a7 rest := by
  have := row_set (i := 4) (v := b0) h
  simpa [row8] using this
end
theorem lone_put (W : World) (g i j k l : Nat) (b0 b1 b2 b3 : Value) : Lone g W ((((W.setCell ⟨g, i, none⟩ b0).setCell ⟨g, j, none⟩ b1).setCell ⟨g, k, none⟩ b2).setCell ⟨g, l, none⟩ b3) :=
  (((lone_setCell g i W _).trans (lone_setCell g j _ _)).trans (lone_setCell g k _ _)).trans (lone_setCell g l _ _)
theorem size_put (W : World) (g i j k l : Nat) (b0 b1 b2 b3 : Value) : ((((W.setCell ⟨g, i, none⟩ b0).setCell ⟨g, j, none⟩ b1).setCell ⟨g, k, none⟩ b2).setCell ⟨g, l, none⟩ b3).heap.size = W.heap.size := by
  rw [size_set, size_set, size_set, size_set]
/-- a list of two peers, as a value -/
def twV (W : World) (v : Value) (z : Tw) : Prop :=
  ∃ g c q0 i0 q1 i1 rest, v = .slice (some ⟨g, 0, none⟩) 2 c ∧ 2 ≤ c ∧ row8 W g q0 (.int .i64 z.x.s) (.int .i64 z.x.e) i0 q1 (.int .i64 z.y.s) (.int .i64 z.y.e) i1 rest ∧
    peV W (peA q0 z.x.s z.x.e i0) z.x ∧ capQ (peA q0 z.x.s z.x.e i0) z.x ∧ peV W (peA q1 z.y.s z.y.e i1) z.y ∧ capQ (peA q1 z.y.s z.y.e i1) z.y
theorem twV.below {W W' : World} {v : Value} {z : Tw} (h : twV W v z) (hb : Below W.heap.size W W') : twV W' v z := by
  obtain ⟨g, c, q0, i0, q1, i1, rest, e, h1, h2, h3, h4, h5, h6⟩ := h
  exact ⟨g, c, q0, i0, q1, i1, rest, e, h1, h2.below hb, h3.below hb, h4, h5.below hb, h6⟩
theorem info33 : (Tryz.prog.info? 53).map (fun i => (i.zero, i.size, i.bytes)) = some (some (.agg #[.slice none 0 0, .int .i64 0, .int .i64 0, .slice none 0 0]), 4, 64) := by kernel_rfl
/-- append([]Peer{}, list...) of two -/
theorem run_copy8 (W : World) (ty G g c : Nat) (hG : G = W.heap.size) (a0 a1 a2 a3 a4 a5 a6 a7 : Value) (rest : List Value) (h : row8 W g a0 a1 a2 a3 a4 a5 a6 a7 rest) (h1 : ∀ u ∈ [a0, a1, a2, a3, a4, a5, a6, a7], u.oneCell' = true) :
    ∃ (g' c' : Nat) (w' : World) (rest' : List Value), (Builtin.append_ #[41, 41] ty #[.slice (some ⟨G, 0, none⟩) 0 0, .slice (some ⟨g, 0, none⟩) 2 c]).run Tryz.prog (W.alloc (.cells #[] 53)) = .ok (.slice (some ⟨g', 0, none⟩) 2 c') w' ∧ Below W.heap.size W w' ∧ row8 w' g' a0 a1 a2 a3 a4 a5 a6 a7 rest' ∧ W.heap.size ≤ g' ∧ 2 ≤ c' := by
  subst hG
  obtain ⟨i0, hi0, hz0, hz1, hz2⟩ := info_parts info33
  have hr : row8 (W.alloc (.cells #[] 53)) g a0 a1 a2 a3 a4 a5 a6 a7 rest := h.below (bl_al (Below.refl _ _))
  obtain ⟨g', c', w', e1, e2, e3, e4, e5⟩ := run_append_lies (P := Tryz.prog) (W.alloc (.cells #[] 53)) 41 ty W.heap.size 53 i0 _ 4 64 Tryz.underlying41 hi0 hz0 hz1 hz2 rfl (by omega) (.slice (some ⟨W.heap.size, 0, none⟩) 0 0) 0 [] (World.ownsRow_made _ #[] 0 (Nat.le_refl _) (Nat.zero_le _) rfl) ⟨g, 0, none⟩ 2 c [a0, a1, a2, a3, a4, a5, a6, a7] rfl
    (fun j u hj => by
      have hj8 : j < 8 := by
        rcases Nat.lt_or_ge j 8 with h | h
        · exact h
        · rw [List.getElem?_eq_none (by simpa using h)] at hj; cases hj
      rw [Addr.add_lit, Nat.zero_add, row_cell hr, List.getElem?_toArray, List.getElem?_append_left (by simpa using hj8)]
      exact hj) h1 (by omega) (by unfold maxLen; omega) (by omega) (by simp) _ rfl
  rw [Nat.zero_add] at e1 e2
  refine ⟨g', c', w', ?_⟩
  obtain ⟨_, ⟨e, _⟩ | ⟨g2, cap, cur, e, hb, hc, h2, _, h3, h4⟩⟩ := e2
  · cases e
  · have x1 : g' = g2 := Option.some.inj (show some g' = some g2 from congrArg Value.ownBlock e)
    have x2 : c' = cap := (Value.slice.inj e).2.2
    subst x1 x2
    refine ⟨cur.toList.drop 8, e1, Below.grown ((Below.refl _ _).alloc (Nat.le_refl _) _) e3 (by simp) (by simp [Value.ownBlock]), ?_, hb, h2⟩
    unfold row8
    rw [hc]
    simp only [List.nil_append] at h4
    have : [a0, a1, a2, a3, a4, a5, a6, a7] ++ cur.toList.drop 8 = cur.toList := by
      rw [← h4]
      exact List.take_append_drop 8 cur.toList
    rw [this]
theorem wpList_copy8 (W : World) {ops : Array Oper} {rst : List Oper} {o : Oper} {a : Act} {Q : Exit → Act → World → Prop} (hgd : o.guard = none) (s x : Operand)
    (ho : o.op = .call { callee := .builtin .append, args := #[s, x], argTypes := #[41, 41] })
    (G g c : Nat) (hG : G = W.heap.size) (a0 a1 a2 a3 a4 a5 a6 a7 : Value) (rest : List Value) (hs : a.eval s = .slice (some ⟨G, 0, none⟩) 0 0) (hx : a.eval x = .slice (some ⟨g, 0, none⟩) 2 c) (h : row8 W g a0 a1 a2 a3 a4 a5 a6 a7 rest) (h1 : ∀ u ∈ [a0, a1, a2, a3, a4, a5, a6, a7], u.oneCell' = true)
    (hk : ∀ (g' c' : Nat) (w' : World) (rest' : List Value), Below W.heap.size W w' → row8 w' g' a0 a1 a2 a3 a4 a5 a6 a7 rest' → W.heap.size ≤ g' → 2 ≤ c' → wpList Tryz.prog ops Q rst (a.put o.dst (.slice (some ⟨g', 0, none⟩) 2 c')) w') : wpList Tryz.prog ops Q (o :: rst) a (W.alloc (.cells #[] 53)) :=
  wpList_plain hgd fun K hK => by
    obtain ⟨g', c', w', rest', hr, h2, h3, h4, h5⟩ := run_copy8 W o.type G g c hG a0 a1 a2 a3 a4 a5 a6 a7 rest h h1
    unfold Oper.wp execOp
    simp only [ho, resolve, invoke, builtin, Sem.run_bind, Sem.run_pure, Result.andThen_ok, List.map_toArray, List.map_cons, List.map_nil, hs, hx, hr]
    exact hK _ _ (hk g' c' w' rest' h2 h3 h4 h5)
/-- an act, as a value -/
abbrev taA (k w : Int) (t : ByteArray) (la lb : Bool) : Value := .agg #[.int .i64 k, .int .i64 w, .string t, .bool la, .bool lb]
abbrev taV (a : Ta) : Value := taA a.k a.w a.t a.la a.lb
end Go.Proofs.YtbkcgkffafjbgaaGreatDoor
/- Where lists of peers lie, and what a store leaves of them. -/
namespace Go.Proofs.YtbkcgkffafjbgaaGreatDoor
open Go.RowKit
set_option maxHeartbeats 4000000
set_option maxRecDepth 20000
set_option linter.unusedVariables false
theorem peA_inj {q q' i i' : Value} {s s' e e' : Int} (h : peA q s e i = peA q' s' e' i') : q = q' ∧ i = i' := by
  have h1 := (Array.mk.inj (Value.agg.inj h))
  exact ⟨(List.cons.inj h1).1, (List.cons.inj (List.cons.inj (List.cons.inj (List.cons.inj h1).2).2).2).1⟩
theorem step_sRow {ops : Array Oper} {o : Oper} {a : Act} {w : World} {K : Act → World → Prop} {Q : Exit → Act → World → Prop} {E : Prop} (hw : Region.wanted o (yielded ops a.tmps) = true) (ty : TypeId) (x y : Operand) (ho : o.op = .store ty x y)
    (g : Nat) (cells : Array Value) (hx : a.eval x = .pointer (some ⟨g, 0, none⟩)) (hy : a.eval y = .agg cells) (t : TypeId) (old : Array Value) (hg : w.heap[g]? = some (.cells old t (0, 0))) (hi : (Tryz.prog.info? ty).map (·.size) = some cells.size)
    (hold : old.size = cells.size) (h1 : cells.all (·.oneCell') = true) (h : K (a.put o.dst undef) (w.setRow g cells)) : if Region.wanted o (yielded ops a.tmps) = true then Oper.wp Tryz.prog o a w K Q else E := by
  rw [if_pos hw]
  exact wp_store_row ty x y ho g cells hx hy t old hg hi hold h1 h
/-- a slice none of whose elements lie in block b -/
def offB (b : Nat) (v : Value) : Prop := ∀ A n c, v = .slice A n c → 0 < n → v.ownBlock ≠ some b
def offP (b : Nat) (v : Value) : Prop := ∃ q i s e, v = peA q s e i ∧ offB b q ∧ offB b i
/-- none of two peers' lists lie in block b -/
def offT (b : Nat) (W : World) (v : Value) : Prop := ∃ g c q0 a1 a2 i0 q1 a5 a6 i1 rest, v = .slice (some ⟨g, 0, none⟩) 2 c ∧ row8 W g q0 a1 a2 i0 q1 a5 a6 i1 rest ∧ offB b q0 ∧ offB b i0 ∧ offB b q1 ∧ offB b i1
theorem offT.below {b : Nat} {W W' : World} {v : Value} (h : offT b W v) (hb : Below W.heap.size W W') : offT b W' v := by
  obtain ⟨g, c, q0, a1, a2, i0, q1, a5, a6, i1, rest, e, hr, h1⟩ := h
  exact ⟨g, c, q0, a1, a2, i0, q1, a5, a6, i1, rest, e, hr.below hb, h1⟩
theorem offT.row {b g c : Nat} {W : World} {a0 a1 a2 a3 a4 a5 a6 a7 : Value} {rest : List Value} (h : offT b W (.slice (some ⟨g, 0, none⟩) 2 c)) (hr : row8 W g a0 a1 a2 a3 a4 a5 a6 a7 rest) : offB b a0 ∧ offB b a3 ∧ offB b a4 ∧ offB b a7 := by
  obtain ⟨g', c', q0, b1, b2, i0, q1, b5, b6, i1, rest', e, hr', h1, h2, h3, h4⟩ := h
  have eg : g = g' := Option.some.inj (show some g = some g' from congrArg Value.ownBlock e)
  subst eg
  have e2 := Option.some.inj (hr.symm.trans hr')
  have e3 := congrArg (fun o : Obj => match o with | .cells cs _ _ => cs.toList | _ => []) e2
  simp only [List.cons_append, List.nil_append, List.cons.injEq] at e3
  obtain ⟨rfl, _, _, rfl, rfl, _, _, rfl, _⟩ := e3
  exact ⟨h1, h2, h3, h4⟩
theorem offB_old {X : World} {v : Value} {xs : List ByteArray} {b : Nat} (h : strsV X v xs) (hb : X.heap.size ≤ b) : offB b v := by
  obtain ⟨A, c, rfl, hc⟩ := h
  intro A' n' c' e hn hk
  have e1 : xs.length = n' := (Value.slice.inj e).2.1
  obtain ⟨g, off, rfl, hl, _⟩ := hc (by omega)
  have : g = b := Option.some.inj hk
  omega
theorem offB_new {u v : Value} {lo b : Nat} (h : newOr lo u v) (hv : offB b v) (hb : b < lo) : offB b u := by
  rcases h with rfl | h
  · exact hv
  · intro A n c _ _ hk
    have := h b hk
    omega
theorem offP_old {X : World} {v : Value} {p : Pe} {b : Nat} (h : peV X v p) (hb : X.heap.size ≤ b) : offP b v := by
  obtain ⟨q, i, rfl, h1, h2⟩ := h
  exact ⟨q, i, _, _, rfl, offB_old h1 hb, offB_old h2 hb⟩
theorem offP_far {W : World} {v r : Value} {b : Nat} (h : farP W v r) (hv : offP b v) (hb : b < W.heap.size) : offP b r := by
  obtain ⟨q, i, s, e, q', i', s', e', rfl, rfl, h1, h2⟩ := h
  obtain ⟨q2, i2, _, _, e2, h3, h4⟩ := hv
  obtain ⟨rfl, rfl⟩ := peA_inj e2
  exact ⟨q', i', s', e', rfl, offB_new h1 h3 hb, offB_new h2 h4 hb⟩
theorem offP_parts {b : Nat} {q i : Value} {s e : Int} (h : offP b (peA q s e i)) : offB b q ∧ offB b i := by
  obtain ⟨q', i', s', e', e0, h1, h2⟩ := h
  obtain ⟨rfl, rfl⟩ := peA_inj e0
  exact ⟨h1, h2⟩
theorem strs_lone8 {W W' : World} {b : Nat} {v : Value} {xs : List ByteArray} (h : strsV W v xs) (hl : Lone b W W') (ho : offB b v) : strsV W' v xs := by
  obtain ⟨A, c, rfl, hc⟩ := h
  refine ⟨A, c, rfl, fun hn => ?_⟩
  obtain ⟨g, off, rfl, hlt, hc⟩ := hc hn
  have hne : g ≠ b := fun e => ho _ _ _ rfl hn (by rw [← e]; rfl)
  refine ⟨g, off, rfl, Nat.lt_of_lt_of_le hlt hl.size, fun j hj => ?_⟩
  rw [World.cell?_of_block (w := W) (hl.block g hlt hne)]
  exact hc j hj
theorem peV_lone8 {W W' : World} {b : Nat} {v : Value} {p : Pe} (h : peV W v p) (hl : Lone b W W') (ho : offP b v) : peV W' v p := by
  obtain ⟨q, i, rfl, h1, h2⟩ := h
  obtain ⟨q2, i2, _, _, e2, h3, h4⟩ := ho
  obtain ⟨rfl, rfl⟩ := peA_inj e2
  exact ⟨q, i, rfl, strs_lone8 h1 hl h3, strs_lone8 h2 hl h4⟩
theorem FC_lone {q b : Nat} {s a : Int} {h : Bool} {t : ByteArray} {W W' : World} (g : FC q s a h t W) (hl : Lone b W W') (hq : q ≠ b) : FC q s a h t W' := by
  have e : ∀ i, W'.cell? ⟨q, i, none⟩ = W.cell? ⟨q, i, none⟩ := fun i => World.cell?_of_block (w := W) (hl.block q g.lt hq)
  exact ⟨Nat.lt_of_lt_of_le g.lt hl.size, (e 0).trans g.c0, (e 1).trans g.c1, (e 2).trans g.c2, (e 3).trans g.c3⟩
theorem offB_row {W : World} {v : Value} {xs : List ByteArray} {b : Nat} {cs : Array Value} {t : TypeId} (h : strsV W v xs) (hr : W.heap[b]? = some (.cells cs t (0, 0))) (hc : ∀ (i : Nat) (t : ByteArray), cs[i]? ≠ some (Value.string t)) : offB b v := by
  obtain ⟨A, c, rfl, hx⟩ := h
  intro A' n' c' e hn hk
  have e1 : xs.length = n' := (Value.slice.inj e).2.1
  obtain ⟨g, off, rfl, hl, hx⟩ := hx (by omega)
  have e2 : g = b := Option.some.inj hk
  subst e2
  have := hx 0 (by omega)
  rw [row_cell hr] at this
  exact hc _ _ this
abbrev ZC : Array Value := #[.slice none 0 0, .int .i64 0, .int .i64 0, .slice none 0 0]
theorem ZC_no : ∀ (i : Nat) (t : ByteArray), ZC[i]? ≠ some (Value.string t) := by
  intro i t
  rcases i with _ | _ | _ | _ | n <;> simp
theorem offP_row {W : World} {v : Value} {p : Pe} {b : Nat} {t : TypeId} (h : peV W v p) (hr : W.heap[b]? = some (.cells ZC t (0, 0))) : offP b v := by
  obtain ⟨q, i, rfl, h1, h2⟩ := h
  exact ⟨q, i, _, _, rfl, offB_row h1 hr ZC_no, offB_row h2 hr ZC_no⟩
theorem slice_one {A : Option Addr} {n cap : Nat} (hn : 1 ≤ n) (hcap : n ≤ cap) :
    ∀ X : World, (Instr.slice 23 (.slice A n cap) none (some (.int .i64 1)) none).run Tryz.prog X = .ok (.slice A 1 cap) X := by
  intro X
  have k1 : (1 : Int) ≤ (cap : Int) := by omega
  have k2 : ¬ (cap = 0) := by omega
  cases A with
  | none => go_simp
  | some a =>
    obtain ⟨b, o, p⟩ := a
    go_simp
theorem take_strs {W : World} {A : Option Addr} {n cap : Nat} {xs : List ByteArray} (hn : 1 ≤ n) (h : strsV W (.slice A n cap) xs) : strsV W (.slice A 1 cap) (xs.take 1) := by
  obtain ⟨A', c', e, hc⟩ := h
  have e1 : n = xs.length := (Value.slice.inj e).2.1
  have e2 : A = A' := (Value.slice.inj e).1
  subst e1 e2
  have hl : (xs.take 1).length = 1 := by rw [List.length_take]; omega
  refine ⟨A, cap, by rw [hl], fun _ => ?_⟩
  obtain ⟨b, off, hA, h1, h2⟩ := hc (by omega)
  refine ⟨b, off, hA, h1, fun j hj => ?_⟩
  rw [hl] at hj
  obtain rfl : j = 0 := by omega
  rw [h2 0 (by omega)]
  cases xs with
  | nil => simp at hn
  | cons a l => rfl
end Go.Proofs.YtbkcgkffafjbgaaGreatDoor
