/- Batches: the laws' helpers. -/
import Derived.Test.YtgdohkemamlnhaaStr
import Derived.Laws.ResultCell
namespace Go.Proofs.Ytgdohkemamlnhaa
open Go.RowKit
set_option maxHeartbeats 4000000
set_option maxRecDepth 20000
/-- a batch as a value -/
abbrev btV (r l : Int) (v : Value) : Value := .agg #[.int .i64 r, .int .i64 l, v]
/-- a batch's cells in block p -/
structure BC (p : Nat) (r l : Int) (v : Value) (W : World) : Prop where
  lt : p < W.heap.size
  c0 : W.cell? ⟨p, 0, none⟩ = some (.int .i64 r)
  c1 : W.cell? ⟨p, 1, none⟩ = some (.int .i64 l)
  c2 : W.cell? ⟨p, 2, none⟩ = some v
theorem bc_new (w : World) (r l : Int) (v : Value) (t : TypeId) : BC w.heap.size r l v (w.alloc (.cells #[.int .i64 r, .int .i64 l, v] t)) := by
  refine ⟨by simp, ?_, ?_, ?_⟩ <;> rw [Go.cell_of_row _ _ _ _ _ _ (heap_alloc_new w _)] <;> rfl
theorem BC.below {p : Nat} {r l : Int} {v : Value} {W W' : World} (h : BC p r l v W) (hb : Below W.heap.size W W') : BC p r l v W' :=
  ⟨Nat.lt_of_lt_of_le h.lt hb.size, (cell_below hb h.lt).trans h.c0, (cell_below hb h.lt).trans h.c1, (cell_below hb h.lt).trans h.c2⟩
theorem row_cell {X : World} {t i : Nat} {cs : Array Value} {ty : TypeId} (h : X.heap[t]? = some (.cells cs ty (0, 0))) : X.cell? ⟨t, i, none⟩ = cs[i]? := by
  rw [Go.cell_of_row _ _ _ _ _ _ h]
theorem row_free {X : World} {t i : Nat} {cs : Array Value} {ty : TypeId} (h : X.heap[t]? = some (.cells cs ty (0, 0))) : X.frozen? ⟨t, i, none⟩ = false := by
  simp [World.frozen?, h]
theorem row_set {X : World} {t i : Nat} {cs : Array Value} {v : Value} {ty : TypeId} (h : X.heap[t]? = some (.cells cs ty (0, 0))) : (X.setCell ⟨t, i, none⟩ v).heap[t]? = some (.cells (cs.setIfInBounds i v) ty (0, 0)) := by
  simp [World.setCell, Array.getElem?_modify, h]
theorem row_set_other {X : World} {t t' i : Nat} {o : Obj} {v : Value} (h : X.heap[t]? = some o) (hne : t' ≠ t) : (X.setCell ⟨t', i, none⟩ v).heap[t]? = some o := by
  rw [← h]; simp only [World.setCell]; rw [Array.getElem?_modify, if_neg (by omega)]
theorem ownS.lone {q lo hi : Nat} {w w' : World} {v : Value} {ts : List ByteArray} (h : ownS lo hi w v ts) (hl : Lone q w w') (hq : q < lo) : ownS lo hi w' v ts := by
  obtain h | ⟨g, cap, rest, rfl, hg, hh, hc, hcp⟩ := h
  · exact .inl h
  · exact .inr ⟨g, cap, rest, rfl, hg, hh, (hl.block g (Array.getElem?_eq_some_iff.1 hc).1 (by omega)).trans hc, hcp⟩
theorem ownS.wide {lo hi lo' hi' : Nat} {w : World} {v : Value} {ts : List ByteArray} (h : ownS lo hi w v ts) (h1 : lo' ≤ lo) (h2 : hi ≤ hi') : ownS lo' hi' w v ts := by
  obtain h | ⟨g, cap, rest, rfl, hg, hh, hc, hcp⟩ := h
  · exact .inl h
  · exact .inr ⟨g, cap, rest, rfl, by omega, by omega, hc, hcp⟩
theorem size_set (X : World) (q i : Nat) (v : Value) : (X.setCell ⟨q, i, none⟩ v).heap.size = X.heap.size := by simp [World.setCell]
theorem sz15 (r l : Int) (v : Value) (ts : List ByteArray) (w : World) (hv : strsV w v ts) (hl : ts.length ≤ maxLen) (hs : ∀ t ∈ ts, t.size ≤ maxLen) :
    Calls Try.prog 15 #[btV r l v, .int .i64 1048576] w fun e w' => ∃ z : Int, e = .returned (.int .i64 z) ∧ (z < 0 ∨ ts.length ≤ 1048576) ∧ Below w.heap.size w w' := by
  have B0 : Below w.heap.size w (w.alloc (.cells #[.int .i64 r, .int .i64 l, v] 36)) := bl_al (Below.refl _ _)
  have h27 := hide (sz27 v ts _ (hv.below B0) hl hs)
  obtain ⟨_, c0, c1, c2⟩ := bc_new w r l v 36
  have HB0 := hide B0
  obtain ⟨A, cap, rfl, _⟩ := hv
  clear B0 hl hs
  go_enter Try.func15, Try.ntmps15
  go_wp2_with fail
  refine (unhide h27).mono ?_
  rintro e w1 ⟨z, rfl, hz, rfl⟩
  have HZ := hide hz
  clear hz h27
  by_cases hn : z < 0
  · go_wp2
    go_ret
    exact ⟨_, rfl, .inl (by omega), unhide HB0⟩
  · have hn' : 0 ≤ z := by omega
    have HZ' := hide (Or.resolve_left (unhide HZ) hn)
    clear hn
    go_wp2
    go_ret
    exact ⟨_, rfl, .inr (unhide HZ'), unhide HB0⟩
theorem to17 (r l : Int) (v : Value) (ts : List ByteArray) (w : World) (hv : strsV w v ts) (hn : ts.length ≤ 2097152) :
    Calls Try.prog 17 #[btV r l v] w fun e w' => ∃ u, e = .returned (btV r l u) ∧ ownS w.heap.size w'.heap.size w' u ts ∧ Below w.heap.size w w' := by
  obtain ⟨_, c0, c1, c2⟩ := bc_new w r l v 36
  have B1 : Below w.heap.size w (w.alloc (.cells #[.int .i64 r, .int .i64 l, v] 36)) := bl_al (Below.refl _ _)
  have B2 := bl_al (o := .cells #[.int .i64 0, .int .i64 0, .slice none 0 0] 39) B1
  have B3 := bl_al (o := .cells #[.int .i64 r, .int .i64 l, .slice none 0 0] 39) B2
  have h30 := hide (to30 v ts _ (hv.below B3) hn)
  have n1 : (((w.alloc (.cells #[.int .i64 r, .int .i64 l, v] 36)).alloc (.cells #[.int .i64 0, .int .i64 0, .slice none 0 0] 39)).alloc (.cells #[.int .i64 r, .int .i64 l, .slice none 0 0] 39)).heap[w.heap.size + 1]? = some (.cells #[.int .i64 0, .int .i64 0, .slice none 0 0] 39 (0, 0)) := by
    rw [Below.heap_alloc _ _ _ (by simp)]
    exact heap_at _ _ _ (by simp)
  have n2 : (((w.alloc (.cells #[.int .i64 r, .int .i64 l, v] 36)).alloc (.cells #[.int .i64 0, .int .i64 0, .slice none 0 0] 39)).alloc (.cells #[.int .i64 r, .int .i64 l, .slice none 0 0] 39)).heap[w.heap.size + 1 + 1]? = some (.cells #[.int .i64 r, .int .i64 l, .slice none 0 0] 39 (0, 0)) := heap_at _ _ _ (by simp)
  have HN1 := hide n1
  have HN2 := hide n2
  have HB3 := hide B3
  clear B1 B2 B3 n1 n2
  obtain ⟨A, cap, rfl, hc⟩ := hv
  clear hc hn
  go_enter Try.func17, Try.ntmps17
  go_wp2_with fail
  generalize ((w.alloc (.cells #[.int .i64 r, .int .i64 l, .slice A ts.length cap] 36)).alloc (.cells #[.int .i64 0, .int .i64 0, .slice none 0 0] 39)).alloc (.cells #[.int .i64 r, .int .i64 l, .slice none 0 0] 39) = w3 at *
  refine (unhide h30).mono ?_
  rintro e w4 ⟨u, rfl, o4, b4⟩
  have n1 := (b4.block _ (Array.getElem?_eq_some_iff.1 (unhide HN1)).1).trans (unhide HN1)
  have n2 := (b4.block _ (Array.getElem?_eq_some_iff.1 (unhide HN2)).1).trans (unhide HN2)
  have L3 := hide (Array.getElem?_eq_some_iff.1 (unhide HN2)).1
  have p0 : w4.cell? ⟨w.heap.size + 1, 0, none⟩ = some (.int .i64 0) := row_cell n1
  have p1 : w4.cell? ⟨w.heap.size + 1, 1, none⟩ = some (.int .i64 0) := row_cell n1
  have p2 : w4.cell? ⟨w.heap.size + 1, 2, none⟩ = some (.slice none 0 0) := row_cell n1
  have y0 : w4.frozen? ⟨w.heap.size + 1, 0, none⟩ = false := row_free n1
  have y1 : w4.frozen? ⟨w.heap.size + 1, 1, none⟩ = false := row_free n1
  have y2 : w4.frozen? ⟨w.heap.size + 1, 2, none⟩ = false := row_free n1
  have s0 : w4.cell? ⟨w.heap.size + 1 + 1, 0, none⟩ = some (.int .i64 r) := row_cell n2
  have s1 : w4.cell? ⟨w.heap.size + 1 + 1, 1, none⟩ = some (.int .i64 l) := row_cell n2
  have s2 : w4.cell? ⟨w.heap.size + 1 + 1, 2, none⟩ = some (.slice none 0 0) := row_cell n2
  have z2 : w4.frozen? ⟨w.heap.size + 1 + 1, 2, none⟩ = false := row_free n2
  have N1 := hide n1
  have O4 := hide o4
  have B4 := hide (bl_st b4 (unhide HB3))
  obtain ⟨A', n', cap', rfl⟩ : ∃ A' n' cap', u = .slice A' n' cap' := by
    obtain ⟨A', cap', e, _⟩ := o4.strs
    exact ⟨_, _, _, e⟩
  clear n1 n2 o4 b4 h30 c0 c1 c2
  go_wp2
  refine bodyPost_ret (v := btV r l (.slice A' n' cap')) ?_ rfl ⟨_, rfl, ?_, ?_⟩
  · exact results_cell_row rfl _ _ (w.heap.size + 1) 39 _ (0, 0) _ rfl (row_set (i := 2) (v := .slice A' n' cap') (row_set (i := 1) (v := .int .i64 l) (row_set (i := 0) (v := .int .i64 r) (row_set_other (t' := w.heap.size + 1 + 1) (i := 2) (v := .slice A' n' cap') (unhide N1) (by omega))))) Try.underlying39 rfl (by kernel_rfl)
  · have L := unhide L3
    have hw := (unhide B4).size
    refine ((((((unhide O4).lone (lone_setCell (w.heap.size + 1 + 1) 2 _ _) (by omega)).lone (lone_setCell (w.heap.size + 1) 0 _ _) (by omega)).lone (lone_setCell (w.heap.size + 1) 1 _ _) (by omega)).lone (lone_setCell (w.heap.size + 1) 2 _ _) (by omega))).wide (by omega) ?_
    rw [size_set, size_set, size_set, size_set]
    exact Nat.le_refl _
  · exact bl_set (bl_set (bl_set (bl_set (unhide B4) (by omega)) (by omega)) (by omega)) (by omega)
theorem eq19 (r l : Int) (a b : Value) (ts : List ByteArray) (w : World) (ha : strsV w a ts) (hb : strsV w b ts) (hn : ts.length ≤ 2097152) :
    Calls Try.prog 19 #[btV r l a, btV r l b] w fun e w' => e = .returned (.bool true) ∧ Below w.heap.size w w' := by
  have B1 : Below w.heap.size w (w.alloc (.cells #[.int .i64 r, .int .i64 l, a] 39)) := bl_al (Below.refl _ _)
  have B2 := bl_al (o := .cells #[.int .i64 r, .int .i64 l, b] 39) B1
  have h33 := hide (eq33 a b ts _ (ha.below B2) (hb.below B2) hn)
  obtain ⟨_, c0, c1, c2⟩ := (bc_new w r l a 39).below (bl_al (o := .cells #[.int .i64 r, .int .i64 l, b] 39) (Below.refl _ _))
  obtain ⟨_, d0, d1, d2⟩ := bc_new (w.alloc (.cells #[.int .i64 r, .int .i64 l, a] 39)) r l b 39
  have HB := hide B2
  obtain ⟨A, ca, rfl, _⟩ := ha
  obtain ⟨A2, cb, rfl, _⟩ := hb
  clear B1 B2 hn
  go_enter Try.func19, Try.ntmps19
  go_wp2_with fail
  refine (unhide h33).mono ?_
  rintro e w3 ⟨rfl, k, rfl⟩
  go_wp2
  go_ret
  exact ⟨rfl, below_drewN (unhide HB) k⟩
theorem TouchS.of_below {v : Value} {a b : World} (h : Below a.heap.size a b) : TouchS v a b := ⟨h.os, h.tape, h.output, h.size, fun k hk _ => h.block k hk⟩
theorem TouchS.trans {v : Value} {a b c : World} (h : TouchS v a b) (g : TouchS v b c) : TouchS v a c :=
  ⟨g.os.trans h.os, g.tape.trans h.tape, g.output.trans h.output, Nat.le_trans h.size g.size, fun k hk hq => (g.block k (Nat.lt_of_lt_of_le hk h.size) hq).trans (h.block k hk hq)⟩
theorem mark20 (lo hi : Nat) (r l : Int) (v : Value) (ts : List ByteArray) (w : World) (hv : ownS lo hi w v ts) (hn : ts.length ≤ 2097152) :
    Calls Try.prog 20 #[btV r l v, .int .i64 1] w fun e w' => e = .returned (.int .i64 (1 + (ts.length : Int))) ∧ ownS lo hi w' v (marksS ts.length) ∧ TouchS v w w' := by
  have B1 : Below w.heap.size w (w.alloc (.cells #[.int .i64 r, .int .i64 l, v] 39)) := bl_al (Below.refl _ _)
  have h34 := hide (mark34 lo hi v ts _ (hv.below B1) hn)
  obtain ⟨_, c0, c1, c2⟩ := bc_new w r l v 39
  have T1 := hide (TouchS.of_below (v := v) B1)
  obtain ⟨A', n', cap', rfl⟩ : ∃ A' n' cap', v = .slice A' n' cap' := by
    obtain ⟨A', cap', e, _⟩ := hv.strs
    exact ⟨_, _, _, e⟩
  clear B1 hv
  have n0 : (0 : Int) ≤ (ts.length : Int) := by omega
  have n1 : (ts.length : Int) ≤ 2097152 := by omega
  go_enter Try.func20, Try.ntmps20
  go_wp2_with fail
  refine (unhide h34).mono ?_
  rintro e w3 ⟨rfl, o3, t3⟩
  have O3 := hide o3
  have T3 := hide ((unhide T1).trans t3)
  clear o3 t3 T1 h34
  go_wp2
  go_ret
  exact ⟨rfl, unhide O3, unhide T3⟩
end Go.Proofs.Ytgdohkemamlnhaa
