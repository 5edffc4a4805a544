/- Where lists of peers lie, and what a store leaves of them. -/
import Derived.Test.YthonnlifgdnacaaTws
namespace Go.Proofs.Ythonnlifgdnacaa
open Go.RowKit
set_option maxHeartbeats 4000000
set_option maxRecDepth 20000
set_option linter.unusedVariables false
theorem peA_inj {q q' i i' : Value} {s s' e e' : Int} (h : peA q s e i = peA q' s' e' i') : q = q' ∧ i = i' := by
  have h1 := (Array.mk.inj (Value.agg.inj h))
  exact ⟨(List.cons.inj h1).1, (List.cons.inj (List.cons.inj (List.cons.inj (List.cons.inj h1).2).2).2).1⟩
theorem step_sRow {ops : Array Oper} {o : Oper} {a : Act} {w : World} {K : Act → World → Prop} {Q : Exit → Act → World → Prop} {E : Prop} (hw : Region.wanted o (yielded ops a.tmps) = true) (ty : TypeId) (x y : Operand) (ho : o.op = .store ty x y)
    (g : Nat) (cells : Array Value) (hx : a.eval x = .pointer (some ⟨g, 0, none⟩)) (hy : a.eval y = .agg cells) (t : TypeId) (old : Array Value) (hg : w.heap[g]? = some (.cells old t (0, 0))) (hi : (Try.prog.info? ty).map (·.size) = some cells.size)
    (hold : old.size = cells.size) (h1 : cells.all (·.oneCell') = true) (h : K (a.put o.dst undef) (w.setRow g cells)) : if Region.wanted o (yielded ops a.tmps) = true then Oper.wp Try.prog o a w K Q else E := by
  rw [if_pos hw]
  exact wp_store_row ty x y ho g cells hx hy t old hg hi hold h1 h
/-- a slice none of whose elements lie in block b -/
def offB (b : Nat) (v : Value) : Prop := ∀ A n c, v = .slice A n c → 0 < n → v.ownBlock ≠ some b
def offP (b : Nat) (v : Value) : Prop := ∃ q i s e, v = peA q s e i ∧ offB b q ∧ offB b i
/-- none of two peers' lists lie in block b -/
def offT (b : Nat) (W : World) (v : Value) : Prop := ∃ g c q0 a1 a2 i0 q1 a5 a6 i1 rest, v = .slice (some ⟨g, 0, none⟩) 2 c ∧ row8 W g q0 a1 a2 i0 q1 a5 a6 i1 rest ∧ offB b q0 ∧ offB b i0 ∧ offB b q1 ∧ offB b i1
theorem offT.below {b : Nat} {W W' : World} {v : Value} (h : offT b W v) (hb : Below W.heap.size W W') : offT b W' v := by
  obtain ⟨g, c, q0, a1, a2, i0, q1, a5, a6, i1, rest, e, hr, h1⟩ := h
  exact ⟨g, c, q0, a1, a2, i0, q1, a5, a6, i1, rest, e, hr.below hb, h1⟩
theorem offT.row {b g c : Nat} {W : World} {a0 a1 a2 a3 a4 a5 a6 a7 : Value} {rest : List Value} (h : offT b W (.slice (some ⟨g, 0, none⟩) 2 c)) (hr : row8 W g a0 a1 a2 a3 a4 a5 a6 a7 rest) : offB b a0 ∧ offB b a3 ∧ offB b a4 ∧ offB b a7 := by
  obtain ⟨g', c', q0, b1, b2, i0, q1, b5, b6, i1, rest', e, hr', h1, h2, h3, h4⟩ := h
  have eg : g = g' := Option.some.inj (show some g = some g' from congrArg Value.ownBlock e)
  subst eg
  have e2 := Option.some.inj (hr.symm.trans hr')
  have e3 := congrArg (fun o : Obj => match o with | .cells cs _ _ => cs.toList | _ => []) e2
  simp only [List.cons_append, List.nil_append, List.cons.injEq] at e3
  obtain ⟨rfl, _, _, rfl, rfl, _, _, rfl, _⟩ := e3
  exact ⟨h1, h2, h3, h4⟩
theorem offB_old {X : World} {v : Value} {xs : List ByteArray} {b : Nat} (h : strsV X v xs) (hb : X.heap.size ≤ b) : offB b v := by
  obtain ⟨A, c, rfl, hc⟩ := h
  intro A' n' c' e hn hk
  have e1 : xs.length = n' := (Value.slice.inj e).2.1
  obtain ⟨g, off, rfl, hl, _⟩ := hc (by omega)
  have : g = b := Option.some.inj hk
  omega
theorem offB_new {u v : Value} {lo b : Nat} (h : newOr lo u v) (hv : offB b v) (hb : b < lo) : offB b u := by
  rcases h with rfl | h
  · exact hv
  · intro A n c _ _ hk
    have := h b hk
    omega
theorem offP_old {X : World} {v : Value} {p : Pe} {b : Nat} (h : peV X v p) (hb : X.heap.size ≤ b) : offP b v := by
  obtain ⟨q, i, rfl, h1, h2⟩ := h
  exact ⟨q, i, _, _, rfl, offB_old h1 hb, offB_old h2 hb⟩
theorem offP_far {W : World} {v r : Value} {b : Nat} (h : farP W v r) (hv : offP b v) (hb : b < W.heap.size) : offP b r := by
  obtain ⟨q, i, s, e, q', i', s', e', rfl, rfl, h1, h2⟩ := h
  obtain ⟨q2, i2, _, _, e2, h3, h4⟩ := hv
  obtain ⟨rfl, rfl⟩ := peA_inj e2
  exact ⟨q', i', s', e', rfl, offB_new h1 h3 hb, offB_new h2 h4 hb⟩
theorem offP_parts {b : Nat} {q i : Value} {s e : Int} (h : offP b (peA q s e i)) : offB b q ∧ offB b i := by
  obtain ⟨q', i', s', e', e0, h1, h2⟩ := h
  obtain ⟨rfl, rfl⟩ := peA_inj e0
  exact ⟨h1, h2⟩
theorem strs_lone8 {W W' : World} {b : Nat} {v : Value} {xs : List ByteArray} (h : strsV W v xs) (hl : Lone b W W') (ho : offB b v) : strsV W' v xs := by
  obtain ⟨A, c, rfl, hc⟩ := h
  refine ⟨A, c, rfl, fun hn => ?_⟩
  obtain ⟨g, off, rfl, hlt, hc⟩ := hc hn
  have hne : g ≠ b := fun e => ho _ _ _ rfl hn (by rw [← e]; rfl)
  refine ⟨g, off, rfl, Nat.lt_of_lt_of_le hlt hl.size, fun j hj => ?_⟩
  rw [World.cell?_of_block (w := W) (hl.block g hlt hne)]
  exact hc j hj
theorem peV_lone8 {W W' : World} {b : Nat} {v : Value} {p : Pe} (h : peV W v p) (hl : Lone b W W') (ho : offP b v) : peV W' v p := by
  obtain ⟨q, i, rfl, h1, h2⟩ := h
  obtain ⟨q2, i2, _, _, e2, h3, h4⟩ := ho
  obtain ⟨rfl, rfl⟩ := peA_inj e2
  exact ⟨q, i, rfl, strs_lone8 h1 hl h3, strs_lone8 h2 hl h4⟩
theorem FC_lone {q b : Nat} {s a : Int} {h : Bool} {t : ByteArray} {W W' : World} (g : FC q s a h t W) (hl : Lone b W W') (hq : q ≠ b) : FC q s a h t W' := by
  have e : ∀ i, W'.cell? ⟨q, i, none⟩ = W.cell? ⟨q, i, none⟩ := fun i => World.cell?_of_block (w := W) (hl.block q g.lt hq)
  exact ⟨Nat.lt_of_lt_of_le g.lt hl.size, (e 0).trans g.c0, (e 1).trans g.c1, (e 2).trans g.c2, (e 3).trans g.c3⟩
theorem offB_row {W : World} {v : Value} {xs : List ByteArray} {b : Nat} {cs : Array Value} {t : TypeId} (h : strsV W v xs) (hr : W.heap[b]? = some (.cells cs t (0, 0))) (hc : ∀ (i : Nat) (t : ByteArray), cs[i]? ≠ some (Value.string t)) : offB b v := by
  obtain ⟨A, c, rfl, hx⟩ := h
  intro A' n' c' e hn hk
  have e1 : xs.length = n' := (Value.slice.inj e).2.1
  obtain ⟨g, off, rfl, hl, hx⟩ := hx (by omega)
  have e2 : g = b := Option.some.inj hk
  subst e2
  have := hx 0 (by omega)
  rw [row_cell hr] at this
  exact hc _ _ this
abbrev ZC : Array Value := #[.slice none 0 0, .int .i64 0, .int .i64 0, .slice none 0 0]
theorem ZC_no : ∀ (i : Nat) (t : ByteArray), ZC[i]? ≠ some (Value.string t) := by
  intro i t
  rcases i with _ | _ | _ | _ | n <;> simp
theorem offP_row {W : World} {v : Value} {p : Pe} {b : Nat} {t : TypeId} (h : peV W v p) (hr : W.heap[b]? = some (.cells ZC t (0, 0))) : offP b v := by
  obtain ⟨q, i, rfl, h1, h2⟩ := h
  exact ⟨q, i, _, _, rfl, offB_row h1 hr ZC_no, offB_row h2 hr ZC_no⟩
theorem slice_one {A : Option Addr} {n cap : Nat} (hn : 1 ≤ n) (hcap : n ≤ cap) :
    ∀ X : World, (Instr.slice 31 (.slice A n cap) none (some (.int .i64 1)) none).run Try.prog X = .ok (.slice A 1 cap) X := by
  intro X
  have k1 : (1 : Int) ≤ (cap : Int) := by omega
  have k2 : ¬ (cap = 0) := by omega
  cases A with
  | none => go_simp
  | some a =>
    obtain ⟨b, o, p⟩ := a
    go_simp
theorem take_strs {W : World} {A : Option Addr} {n cap : Nat} {xs : List ByteArray} (hn : 1 ≤ n) (h : strsV W (.slice A n cap) xs) : strsV W (.slice A 1 cap) (xs.take 1) := by
  obtain ⟨A', c', e, hc⟩ := h
  have e1 : n = xs.length := (Value.slice.inj e).2.1
  have e2 : A = A' := (Value.slice.inj e).1
  subst e1 e2
  have hl : (xs.take 1).length = 1 := by rw [List.length_take]; omega
  refine ⟨A, cap, by rw [hl], fun _ => ?_⟩
  obtain ⟨b, off, hA, h1, h2⟩ := hc (by omega)
  refine ⟨b, off, hA, h1, fun j hj => ?_⟩
  rw [hl] at hj
  obtain rfl : j = 0 := by omega
  rw [h2 0 (by omega)]
  cases xs with
  | nil => simp at hn
  | cons a l => rfl
end Go.Proofs.Ythonnlifgdnacaa
