/- Filters as values: the laws' helpers over them. -/
import Derived.Test.YthckgccfjpgbaaaBol
namespace Go.Proofs.Ythckgccfjpgbaaa
open Go.RowKit
set_option maxHeartbeats 4000000
set_option maxRecDepth 20000
/-- a filter -/
structure Blm where
  p : Int
  w : Int
  s : List Slt
  b : List Bool
abbrev bloV (p w : Int) (a b : Value) : Value := .agg #[.int .i64 p, .int .i64 w, a, b]
/-- a filter's cells in block q -/
structure BC (q : Nat) (p wd : Int) (a b : Value) (W : World) : Prop where
  lt : q < W.heap.size
  c0 : W.cell? ⟨q, 0, none⟩ = some (.int .i64 p)
  c1 : W.cell? ⟨q, 1, none⟩ = some (.int .i64 wd)
  c2 : W.cell? ⟨q, 2, none⟩ = some a
  c3 : W.cell? ⟨q, 3, none⟩ = some b
theorem bc_row {W : World} {q : Nat} {p wd : Int} {a b : Value} {ty : TypeId} (h : W.heap[q]? = some (.cells #[.int .i64 p, .int .i64 wd, a, b] ty (0, 0))) : BC q p wd a b W :=
  ⟨(Array.getElem?_eq_some_iff.1 h).1, row_cell h, row_cell h, row_cell h, row_cell h⟩
theorem bc_new (w : World) (p wd : Int) (a b : Value) (ty : TypeId) : BC w.heap.size p wd a b (w.alloc (.cells #[.int .i64 p, .int .i64 wd, a, b] ty)) :=
  bc_row (heap_alloc_new w _)
theorem BC.below {q : Nat} {p wd : Int} {a b : Value} {W W' : World} (h : BC q p wd a b W) (hb : Below W.heap.size W W') : BC q p wd a b W' :=
  ⟨Nat.lt_of_lt_of_le h.lt hb.size, (cell_below hb h.lt).trans h.c0, (cell_below hb h.lt).trans h.c1, (cell_below hb h.lt).trans h.c2, (cell_below hb h.lt).trans h.c3⟩
/-- a value that reads as this filter -/
def blmV (w : World) (v : Value) (x : Blm) : Prop := ∃ a b, v = bloV x.p x.w a b ∧ saltsV w a x.s ∧ boolsV w b x.b
/-- a filter whose lists lie in blocks of their own, between lo and hi -/
def ownX (lo hi : Nat) (w : World) (v : Value) (x : Blm) : Prop :=
  ∃ a b, v = bloV x.p x.w a b ∧ ownA lo hi w a x.s ∧ ownB lo hi w b x.b ∧ ∀ g, a.ownBlock = some g → b.ownBlock ≠ some g
/-- nothing that was there has turned but what lies between lo and hi -/
structure TouchR (lo hi : Nat) (w w' : World) : Prop where
  os : w'.os = w.os
  tape : w'.tape = w.tape
  output : w'.output = w.output
  size : w.heap.size ≤ w'.heap.size
  block : ∀ k, k < w.heap.size → k < lo ∨ hi ≤ k → w'.heap[k]? = w.heap[k]?
theorem TouchR.trans {lo hi : Nat} {a b c : World} (h : TouchR lo hi a b) (g : TouchR lo hi b c) : TouchR lo hi a c :=
  ⟨g.os.trans h.os, g.tape.trans h.tape, g.output.trans h.output, Nat.le_trans h.size g.size, fun k hk hq => (g.block k (Nat.lt_of_lt_of_le hk h.size) hq).trans (h.block k hk hq)⟩
theorem TouchR.of_below {lo hi : Nat} {a b : World} (h : Below a.heap.size a b) : TouchR lo hi a b := ⟨h.os, h.tape, h.output, h.size, fun k hk _ => h.block k hk⟩
theorem TouchR.of_touch {lo hi : Nat} {v : Value} {a b : World} (h : TouchS v a b) (hl : liesIn lo hi v) : TouchR lo hi a b :=
  ⟨h.os, h.tape, h.output, h.size, fun k hk hq => h.block k hk fun e => by have := hl k e; omega⟩
theorem belowR {B lo hi : Nat} {a w w' : World} (h : Below B a w) (ht : TouchR lo hi w w') (hB : B ≤ lo) (hw : B ≤ w.heap.size) : Below B a w' :=
  ⟨ht.os.trans h.os, ht.tape.trans h.tape, ht.output.trans h.output, Nat.le_trans h.size ht.size, fun k hk => by
    rw [ht.block k (by omega) (by omega)]; exact h.block k hk⟩
theorem ownA.touchR {lo hi lo' hi' : Nat} {w w' : World} {u : Value} {xs : List Slt} (h : ownA lo hi w u xs) (ht : TouchR lo' hi' w w') (hd : hi ≤ lo' ∨ hi' ≤ lo) : ownA lo hi w' u xs := by
  obtain h | ⟨g, cap, rest, rfl, hg, hh, hc, hcp⟩ := h
  · exact .inl h
  · exact .inr ⟨g, cap, rest, rfl, hg, hh, (ht.block g (Array.getElem?_eq_some_iff.1 hc).1 (by omega)).trans hc, hcp⟩
theorem ownB.touchR {lo hi lo' hi' : Nat} {w w' : World} {u : Value} {xs : List Bool} (h : ownB lo hi w u xs) (ht : TouchR lo' hi' w w') (hd : hi ≤ lo' ∨ hi' ≤ lo) : ownB lo hi w' u xs := by
  obtain h | ⟨g, cap, rest, rfl, hg, hh, hc, hcp⟩ := h
  · exact .inl h
  · exact .inr ⟨g, cap, rest, rfl, hg, hh, (ht.block g (Array.getElem?_eq_some_iff.1 hc).1 (by omega)).trans hc, hcp⟩
theorem ownX.blm {lo hi : Nat} {w : World} {v : Value} {x : Blm} (h : ownX lo hi w v x) : blmV w v x := by
  obtain ⟨a, b, rfl, ha, hb, _⟩ := h
  exact ⟨a, b, rfl, ha.salts, hb.bools⟩
theorem blmV.below {w w' : World} {v : Value} {x : Blm} (h : blmV w v x) (hb : Below w.heap.size w w') : blmV w' v x := by
  obtain ⟨a, b, rfl, h1, h2⟩ := h
  exact ⟨a, b, rfl, h1.below hb, h2.below hb⟩
theorem ownX.below {lo hi : Nat} {w w' : World} {v : Value} {x : Blm} (h : ownX lo hi w v x) (hb : Below w.heap.size w w') : ownX lo hi w' v x := by
  obtain ⟨a, b, rfl, h1, h2, h3⟩ := h
  exact ⟨a, b, rfl, h1.below hb, h2.below hb, h3⟩
theorem ownX.wide {lo hi lo' hi' : Nat} {w : World} {v : Value} {x : Blm} (h : ownX lo hi w v x) (e1 : lo' ≤ lo) (e2 : hi ≤ hi') : ownX lo' hi' w v x := by
  obtain ⟨a, b, rfl, h1, h2, h3⟩ := h
  exact ⟨a, b, rfl, h1.wide e1 e2, h2.wide e1 e2, h3⟩
theorem ownX.touchR {lo hi lo' hi' : Nat} {w w' : World} {v : Value} {x : Blm} (h : ownX lo hi w v x) (ht : TouchR lo' hi' w w') (hd : hi ≤ lo' ∨ hi' ≤ lo) : ownX lo hi w' v x := by
  obtain ⟨a, b, rfl, h1, h2, h3⟩ := h
  exact ⟨a, b, rfl, h1.touchR ht hd, h2.touchR ht hd, h3⟩
theorem ownA.lone {q lo hi : Nat} {w w' : World} {v : Value} {xs : List Slt} (h : ownA lo hi w v xs) (hl : Lone q w w') (hq : q < lo) : ownA lo hi w' v xs := by
  obtain h | ⟨g, cap, rest, rfl, hg, hh, hc, hcp⟩ := h
  · exact .inl h
  · exact .inr ⟨g, cap, rest, rfl, hg, hh, (hl.block g (Array.getElem?_eq_some_iff.1 hc).1 (by omega)).trans hc, hcp⟩
theorem ownB.lone {q lo hi : Nat} {w w' : World} {v : Value} {xs : List Bool} (h : ownB lo hi w v xs) (hl : Lone q w w') (hq : q < lo) : ownB lo hi w' v xs := by
  obtain h | ⟨g, cap, rest, rfl, hg, hh, hc, hcp⟩ := h
  · exact .inl h
  · exact .inr ⟨g, cap, rest, rfl, hg, hh, (hl.block g (Array.getElem?_eq_some_iff.1 hc).1 (by omega)).trans hc, hcp⟩
theorem apart {lo mid hi : Nat} {w w' : World} {a b : Value} {xs : List Slt} {ys : List Bool} (ha : ownA lo mid w a xs) (hb : ownB mid hi w' b ys) : ∀ g, a.ownBlock = some g → b.ownBlock ≠ some g := by
  intro g h1 h2
  have := ha.lies g h1
  have := hb.lies g h2
  omega
theorem saltsV.slice {w : World} {v : Value} {xs : List Slt} (h : saltsV w v xs) : ∃ A c, v = .slice A xs.length c := by
  obtain ⟨A, c, e, _⟩ := h; exact ⟨A, c, e⟩
theorem boolsV.slice {w : World} {v : Value} {xs : List Bool} (h : boolsV w v xs) : ∃ A c, v = .slice A xs.length c := by
  obtain ⟨A, c, e, _⟩ := h; exact ⟨A, c, e⟩
theorem sz36 (v : Value) (x : Blm) (L : Int) (w : World) (hv : blmV w v x) (hl : x.s.length ≤ maxLen) (hl' : x.b.length ≤ maxLen) (hL : 0 ≤ L) (hL' : L ≤ 1048576) :
    Calls Try.prog 36 #[v, .int .i64 L] w fun e w' => ∃ z : Int, e = .returned (.int .i64 z) ∧ (z < 0 ∨ 0 ≤ z ∧ z ≤ 1048576 ∧ x.s.length + x.b.length ≤ 1048576) ∧ Below w.heap.size w w' := by
  obtain ⟨a, b, rfl, ha, hb⟩ := hv
  have B0 : Below w.heap.size w (w.alloc (.cells #[.int .i64 x.p, .int .i64 x.w, a, b] 52)) := bl_al (Below.refl _ _)
  have K1 := hide (sz28 a x.s L _ (ha.below B0) hl hL hL')
  have K2 := hide (fun (L : Int) hL hL' => sz73 b x.b L _ (hb.below B0) hl' hL hL')
  obtain ⟨_, c0, c1, c2, c3⟩ := bc_new w x.p x.w a b 52
  have HB0 := hide B0
  obtain ⟨A, ca, rfl⟩ := ha.slice
  obtain ⟨A2, cb, rfl⟩ := hb.slice
  clear B0 hl hl' ha hb
  have n0 : (0 : Int) ≤ (x.s.length : Int) := by omega
  have m0 : (0 : Int) ≤ (x.b.length : Int) := by omega
  by_cases h1 : (x.s.length : Int) ≤ L
  · rw [if_pos h1] at K1
    have K3 := hide (unhide K2 (L - x.s.length) (by omega) (by omega))
    by_cases h2 : (x.b.length : Int) ≤ L - x.s.length
    · rw [if_pos h2] at K3
      have z0 : 0 ≤ L - (x.s.length : Int) := by omega
      have z1 : 0 ≤ L - (x.s.length : Int) - (x.b.length : Int) := by omega
      have HZ := hide (show L - (x.s.length : Int) - (x.b.length : Int) ≤ 1048576 ∧ x.s.length + x.b.length ≤ 1048576 by omega)
      clear K2 h1 h2
      generalize (x.s.length : Int) = n at *
      generalize (x.b.length : Int) = m at *
      generalize L - n = l1 at *
      generalize l1 - m = l2 at *
      go_enter Try.func36, Try.ntmps36
      go_wp2_with fail
      refine (unhide K1).mono ?_
      rintro e w1 ⟨rfl, rfl⟩
      go_wp2_with fail
      refine (unhide K3).mono ?_
      rintro e w1 ⟨rfl, rfl⟩
      go_wp2
      go_ret
      exact ⟨_, rfl, .inr ⟨by omega, (unhide HZ).1, (unhide HZ).2⟩, unhide HB0⟩
    · rw [if_neg h2] at K3
      have z0 : 0 ≤ L - (x.s.length : Int) := by omega
      clear K2 h1 h2
      generalize (x.s.length : Int) = n at *
      generalize (x.b.length : Int) = m at *
      generalize L - n = l1 at *
      go_enter Try.func36, Try.ntmps36
      go_wp2_with fail
      refine (unhide K1).mono ?_
      rintro e w1 ⟨rfl, rfl⟩
      go_wp2_with fail
      refine (unhide K3).mono ?_
      rintro e w1 ⟨rfl, rfl⟩
      go_wp2
      go_ret
      exact ⟨_, rfl, .inl (by omega), unhide HB0⟩
  · rw [if_neg h1] at K1
    clear K2 h1
    generalize (x.s.length : Int) = n at *
    generalize (x.b.length : Int) = m at *
    go_enter Try.func36, Try.ntmps36
    go_wp2_with fail
    refine (unhide K1).mono ?_
    rintro e w1 ⟨rfl, rfl⟩
    go_wp2
    go_ret
    exact ⟨_, rfl, .inl (by omega), unhide HB0⟩
theorem to38 (v : Value) (x : Blm) (w : World) (hv : blmV w v x) (hn : x.s.length ≤ 2097152) (hn' : x.b.length ≤ 2097152) :
    Calls Try.prog 38 #[v] w fun e w' => ∃ r, e = .returned r ∧ ownX w.heap.size w'.heap.size w' r x ∧ Below w.heap.size w w' := by
  obtain ⟨a, b, rfl, ha, hb⟩ := hv
  obtain ⟨p, wd, ss, bs⟩ := x
  dsimp only at *
  obtain ⟨_, c0, c1, c2, c3⟩ := bc_new w p wd a b 52
  have B1 : Below w.heap.size w (w.alloc (.cells #[.int .i64 p, .int .i64 wd, a, b] 52)) := bl_al (Below.refl _ _)
  have B2 := bl_al (o := .cells #[.int .i64 0, .int .i64 0, .slice none 0 0, .slice none 0 0] 26) B1
  have B3 := bl_al (o := .cells #[.int .i64 p, .int .i64 wd, .slice none 0 0, .slice none 0 0] 26) B2
  have h30 := hide (to30 a ss _ (ha.below B3) hn)
  have h74 := hide (fun W (h : boolsV W b bs) => to74 b bs W h hn')
  have HBB := hide hb
  have n0 : (((w.alloc (.cells #[.int .i64 p, .int .i64 wd, a, b] 52)).alloc (.cells #[.int .i64 0, .int .i64 0, .slice none 0 0, .slice none 0 0] 26)).alloc (.cells #[.int .i64 p, .int .i64 wd, .slice none 0 0, .slice none 0 0] 26)).heap[w.heap.size]? = some (.cells #[.int .i64 p, .int .i64 wd, a, b] 52 (0, 0)) := by
    rw [Below.heap_alloc _ _ _ (by simp; omega), Below.heap_alloc _ _ _ (by simp)]
    exact heap_at _ _ _ rfl
  have n1 : (((w.alloc (.cells #[.int .i64 p, .int .i64 wd, a, b] 52)).alloc (.cells #[.int .i64 0, .int .i64 0, .slice none 0 0, .slice none 0 0] 26)).alloc (.cells #[.int .i64 p, .int .i64 wd, .slice none 0 0, .slice none 0 0] 26)).heap[w.heap.size + 1]? = some (.cells #[.int .i64 0, .int .i64 0, .slice none 0 0, .slice none 0 0] 26 (0, 0)) := by
    rw [Below.heap_alloc _ _ _ (by simp)]
    exact heap_at _ _ _ (by simp)
  have n2 : (((w.alloc (.cells #[.int .i64 p, .int .i64 wd, a, b] 52)).alloc (.cells #[.int .i64 0, .int .i64 0, .slice none 0 0, .slice none 0 0] 26)).alloc (.cells #[.int .i64 p, .int .i64 wd, .slice none 0 0, .slice none 0 0] 26)).heap[w.heap.size + 1 + 1]? = some (.cells #[.int .i64 p, .int .i64 wd, .slice none 0 0, .slice none 0 0] 26 (0, 0)) := heap_at _ _ _ (by simp)
  have HN0 := hide n0
  have HN1 := hide n1
  have HN2 := hide n2
  have HB3 := hide B3
  clear B1 B2 B3 n0 n1 n2
  obtain ⟨A, ca, rfl⟩ := ha.slice
  obtain ⟨A2, cb, rfl⟩ := hb.slice
  clear ha hb hn hn'
  go_enter Try.func38, Try.ntmps38
  go_wp2_with fail
  generalize ((w.alloc (.cells #[.int .i64 p, .int .i64 wd, .slice A ss.length ca, .slice A2 bs.length cb] 52)).alloc (.cells #[.int .i64 0, .int .i64 0, .slice none 0 0, .slice none 0 0] 26)).alloc (.cells #[.int .i64 p, .int .i64 wd, .slice none 0 0, .slice none 0 0] 26) = w3 at *
  refine (unhide h30).mono ?_
  rintro e w4 ⟨u, rfl, o4, b4⟩
  have n0 := (b4.block _ (Array.getElem?_eq_some_iff.1 (unhide HN0)).1).trans (unhide HN0)
  have n1 := (b4.block _ (Array.getElem?_eq_some_iff.1 (unhide HN1)).1).trans (unhide HN1)
  have n2 := (b4.block _ (Array.getElem?_eq_some_iff.1 (unhide HN2)).1).trans (unhide HN2)
  have L3 := hide (Array.getElem?_eq_some_iff.1 (unhide HN2)).1
  have B4 := bl_st b4 (unhide HB3)
  have L4 := hide b4.size
  obtain ⟨A', c', rfl⟩ := o4.salts.slice
  have e3 : w4.cell? ⟨w.heap.size, 3, none⟩ = some (.slice A2 bs.length cb) := row_cell n0
  have t2 : w4.cell? ⟨w.heap.size + 1 + 1, 2, none⟩ = some (.slice none 0 0) := row_cell n2
  have z2 : w4.frozen? ⟨w.heap.size + 1 + 1, 2, none⟩ = false := row_free n2
  have M0 := hide (row_set_other (i := 2) (v := .slice A' ss.length c') n0 (show w.heap.size + 1 + 1 ≠ w.heap.size by omega))
  have M1 := hide (row_set_other (i := 2) (v := .slice A' ss.length c') n1 (show w.heap.size + 1 + 1 ≠ w.heap.size + 1 by omega))
  have M2 := hide (row_set (i := 2) (v := .slice A' ss.length c') n2)
  have B5 := hide (bl_set (i := 2) (v := .slice A' ss.length c') B4 (show w.heap.size ≤ w.heap.size + 1 + 1 by omega))
  have O5 := hide (o4.lone (lone_setCell (w.heap.size + 1 + 1) 2 w4 (.slice A' ss.length c')) (unhide L3))
  have V5 := hide ((unhide HBB).below (unhide B5))
  clear n0 n1 n2 o4 b4 h30 c0 c1 c2 c3 B4
  go_wp2_with fail
  have S5 := hide (size_set w4 (w.heap.size + 1 + 1) 2 (.slice A' ss.length c'))
  generalize w4.setCell ⟨w.heap.size + 1 + 1, 2, none⟩ (.slice A' ss.length c') = w5 at *
  refine (unhide h74 w5 (unhide V5)).mono ?_
  rintro e w6 ⟨u, rfl, o6, b6⟩
  have n1 := (b6.block _ (Array.getElem?_eq_some_iff.1 (unhide M1)).1).trans (unhide M1)
  have n2 := (b6.block _ (Array.getElem?_eq_some_iff.1 (unhide M2)).1).trans (unhide M2)
  simp only [List.setIfInBounds_toArray, List.set_cons_zero, List.set_cons_succ] at n2
  have L5 := hide b6.size
  have O6 := hide ((unhide O5).below b6)
  have P6 := hide o6
  obtain ⟨A'', c'', rfl⟩ := o6.bools.slice
  have p0 : w6.cell? ⟨w.heap.size + 1, 0, none⟩ = some (.int .i64 0) := row_cell n1
  have p1 : w6.cell? ⟨w.heap.size + 1, 1, none⟩ = some (.int .i64 0) := row_cell n1
  have p2 : w6.cell? ⟨w.heap.size + 1, 2, none⟩ = some (.slice none 0 0) := row_cell n1
  have p3 : w6.cell? ⟨w.heap.size + 1, 3, none⟩ = some (.slice none 0 0) := row_cell n1
  have y0 : w6.frozen? ⟨w.heap.size + 1, 0, none⟩ = false := row_free n1
  have y1 : w6.frozen? ⟨w.heap.size + 1, 1, none⟩ = false := row_free n1
  have y2 : w6.frozen? ⟨w.heap.size + 1, 2, none⟩ = false := row_free n1
  have y3 : w6.frozen? ⟨w.heap.size + 1, 3, none⟩ = false := row_free n1
  have s0 : w6.cell? ⟨w.heap.size + 1 + 1, 0, none⟩ = some (.int .i64 p) := row_cell n2
  have s1 : w6.cell? ⟨w.heap.size + 1 + 1, 1, none⟩ = some (.int .i64 wd) := row_cell n2
  have s2 : w6.cell? ⟨w.heap.size + 1 + 1, 2, none⟩ = some (.slice A' ss.length c') := row_cell n2
  have s3 : w6.cell? ⟨w.heap.size + 1 + 1, 3, none⟩ = some (.slice none 0 0) := row_cell n2
  have x3 : w6.frozen? ⟨w.heap.size + 1 + 1, 3, none⟩ = false := row_free n2
  have N1 := hide n1
  have B6 := hide (bl_st b6 (unhide B5))
  clear n1 n2 o6 b6 e3 t2 z2
  go_wp2
  refine bodyPost_ret (v := bloV p wd (.slice A' ss.length c') (.slice A'' bs.length c'')) ?_ rfl ⟨_, rfl, ⟨_, _, rfl, ?_, ?_, apart (unhide O6) ((unhide P6).wide (by have := unhide S5; omega) (Nat.le_refl _))⟩, ?_⟩
  · exact results_cell_row rfl _ _ (w.heap.size + 1) 26 _ (0, 0) _ rfl (row_set (i := 3) (v := .slice A'' bs.length c'') (row_set (i := 2) (v := .slice A' ss.length c') (row_set (i := 1) (v := .int .i64 wd) (row_set (i := 0) (v := .int .i64 p) (row_set_other (t' := w.heap.size + 1 + 1) (i := 3) (v := .slice A'' bs.length c'') (unhide N1) (by omega)))))) Try.underlying26 rfl (by kernel_rfl)
  · have L := unhide L3
    have L' := unhide L4
    have hw := (unhide B6).size
    have h5 := unhide L5
    have h6 := unhide S5
    refine (((((((unhide O6).lone (lone_setCell (w.heap.size + 1 + 1) 3 _ _) (by omega)).lone (lone_setCell (w.heap.size + 1) 0 _ _) (by omega)).lone (lone_setCell (w.heap.size + 1) 1 _ _) (by omega)).lone (lone_setCell (w.heap.size + 1) 2 _ _) (by omega))).lone (lone_setCell (w.heap.size + 1) 3 _ _) (by omega)).wide (by omega) ?_
    rw [size_set, size_set, size_set, size_set, size_set]
    omega
  · have L := unhide L3
    have L' := unhide L4
    have hw := (unhide B6).size
    have h5 := unhide L5
    have h6 := unhide S5
    refine (((((((unhide P6).lone (lone_setCell (w.heap.size + 1 + 1) 3 _ _) (by omega)).lone (lone_setCell (w.heap.size + 1) 0 _ _) (by omega)).lone (lone_setCell (w.heap.size + 1) 1 _ _) (by omega)).lone (lone_setCell (w.heap.size + 1) 2 _ _) (by omega))).lone (lone_setCell (w.heap.size + 1) 3 _ _) (by omega)).wide (by omega) ?_
    rw [size_set, size_set, size_set, size_set, size_set]
    exact Nat.le_refl _
  · exact bl_set (bl_set (bl_set (bl_set (bl_set (unhide B6) (by omega)) (by omega)) (by omega)) (by omega)) (by omega)
theorem eq31 (v u : Value) (x : Blm) (w : World) (hv : blmV w v x) (hu : blmV w u x) (hn : x.s.length ≤ 2097152) (hn' : x.b.length ≤ 2097152) :
    Calls Try.prog 31 #[v, u] w fun e w' => e = .returned (.bool true) ∧ Below w.heap.size w w' := by
  obtain ⟨a, b, rfl, ha, hb⟩ := hv
  obtain ⟨a', b', rfl, ha', hb'⟩ := hu
  obtain ⟨p, wd, ss, bs⟩ := x
  dsimp only at *
  have B1 : Below w.heap.size w (w.alloc (.cells #[.int .i64 p, .int .i64 wd, a, b] 26)) := bl_al (Below.refl _ _)
  have B2 := bl_al (o := .cells #[.int .i64 p, .int .i64 wd, a', b'] 26) B1
  have K1 := hide (eq32 a a' ss _ (ha.below B2) (ha'.below B2) hn)
  have K2 := hide (fun W (h : boolsV W b bs) (h' : boolsV W b' bs) => eq68 b b' bs W h h' hn')
  have C := (bc_new w p wd a b 26).below (bl_al (o := .cells #[.int .i64 p, .int .i64 wd, a', b'] 26) (Below.refl _ _))
  have D := bc_new (w.alloc (.cells #[.int .i64 p, .int .i64 wd, a, b] 26)) p wd a' b' 26
  rw [show (w.alloc (.cells #[.int .i64 p, .int .i64 wd, a, b] 26)).heap.size = w.heap.size + 1 by simp] at D
  have HC := hide C
  have HD := hide D
  obtain ⟨_, c0, c1, c2, c3⟩ := C
  obtain ⟨_, d0, d1, d2, d3⟩ := D
  have HB := hide B2
  have H1 := hide hb
  have H2 := hide hb'
  obtain ⟨A, ca, rfl⟩ := ha.slice
  obtain ⟨A2, cb, rfl⟩ := hb.slice
  obtain ⟨A', ca', rfl⟩ := ha'.slice
  obtain ⟨A2', cb', rfl⟩ := hb'.slice
  clear B1 B2 hn hn' ha hb ha' hb'
  go_enter Try.func31, Try.ntmps31
  go_wp2_with fail
  generalize (w.alloc (.cells #[.int .i64 p, .int .i64 wd, .slice A ss.length ca, .slice A2 bs.length cb] 26)).alloc (.cells #[.int .i64 p, .int .i64 wd, .slice A' ss.length ca', .slice A2' bs.length cb'] 26) = w2 at *
  refine (unhide K1).mono ?_
  rintro e w3 ⟨rfl, b3⟩
  clear c0 c1 c2 c3 d0 d1 d2 d3
  obtain ⟨_, c0, c1, c2, c3⟩ := (unhide HC).below b3
  obtain ⟨_, d0, d1, d2, d3⟩ := (unhide HD).below b3
  have B3 := hide (bl_st b3 (unhide HB))
  have V1 := hide ((unhide H1).below (unhide B3))
  have V2 := hide ((unhide H2).below (unhide B3))
  clear b3 K1 HB H1 H2 HC HD
  go_wp2_with fail
  refine (unhide K2 w3 (unhide V1) (unhide V2)).mono ?_
  rintro e w4 ⟨rfl, k, rfl⟩
  go_wp2
  go_ret
  exact ⟨rfl, below_drewN (unhide B3) k⟩
def markX (x : Blm) (k : Nat) : Blm := ⟨x.p, x.w, marksA k x.s.length, marksB (k + x.s.length * 2) x.b.length⟩
theorem mark34 (lo hi : Nat) (v : Value) (x : Blm) (k : Nat) (w : World) (hv : ownX lo hi w v x) (hn : x.s.length ≤ 1048577) (hn' : x.b.length ≤ 1048577) (hk : k ≤ 4194304) (hh : hi ≤ w.heap.size) :
    Calls Try.prog 34 #[v, .int .i64 (k : Int)] w fun e w' => e = .returned (.int .i64 (((k + x.s.length * 2 + x.b.length : Nat)) : Int)) ∧ ownX lo hi w' v (markX x k) ∧ TouchR lo hi w w' := by
  obtain ⟨a, b, rfl, ha, hb, hab⟩ := hv
  obtain ⟨p, wd, ss, bs⟩ := x
  dsimp only [markX] at *
  have B1 : Below w.heap.size w (w.alloc (.cells #[.int .i64 p, .int .i64 wd, a, b] 26)) := bl_al (Below.refl _ _)
  have K1 := hide (mark33 lo hi a ss k _ (ha.below B1) hn (by omega))
  have K2 := hide (fun W (h : ownB lo hi W b bs) => mark70 lo hi b bs (k + ss.length * 2) W h hn' (by omega))
  have C := bc_new w p wd a b 26
  obtain ⟨_, c0, c1, c2, c3⟩ := C
  have T1 := hide (TouchR.of_below (lo := lo) (hi := hi) B1)
  have HN := hide (heap_alloc_new w (.cells #[.int .i64 p, .int .i64 wd, a, b] 26))
  have HBA := hide (hb.below B1)
  have HLA := hide ha.lies
  have HLB := hide hb.lies
  have HAB := hide hab
  have HH := hide hh
  have e1 : (k : Int) + (ss.length : Int) * 2 = ((k + ss.length * 2 : Nat) : Int) := by omega
  have e2 : ((k + ss.length * 2 : Nat) : Int) + (bs.length : Int) = ((k + ss.length * 2 + bs.length : Nat) : Int) := by omega
  rw [e1] at K1
  have K2' : Hid (∀ W, ownB lo hi W b bs → Calls Try.prog 70 #[b, .int .i64 ((k + ss.length * 2 : Nat) : Int)] W fun e w' => e = .returned (.int .i64 ((k + ss.length * 2 + bs.length : Nat) : Int)) ∧ ownB lo hi w' b (marksB (k + ss.length * 2) bs.length) ∧ TouchS b W w') := hide fun W h => by
    have := unhide K2 W h
    rw [e2] at this
    exact this
  obtain ⟨A, ca, rfl⟩ := ha.salts.slice
  obtain ⟨A2, cb, rfl⟩ := hb.bools.slice
  clear B1 hn hn' ha hb e1 e2 K2 hab hh hk
  generalize ((k + ss.length * 2 + bs.length : Nat) : Int) = k2 at *
  have HK1 : Hid (∃ k1 : Int, k1 = ((k + ss.length * 2 : Nat) : Int)) := ⟨_, rfl⟩
  generalize k + ss.length * 2 = k1 at *
  go_enter Try.func34, Try.ntmps34
  go_wp2_with fail
  generalize w.alloc (.cells #[.int .i64 p, .int .i64 wd, .slice A ss.length ca, .slice A2 bs.length cb] 26) = w2 at *
  refine (unhide K1).mono ?_
  rintro e w3 ⟨rfl, o3, t3⟩
  have T3 := hide ((unhide T1).trans (TouchR.of_touch t3 (unhide HLA)))
  have O3 := hide o3
  have P3 := hide ((unhide HBA).touchS t3 fun g h1 h2 => unhide HAB g h2 h1)
  have n3 := (t3.block _ (Array.getElem?_eq_some_iff.1 (unhide HN)).1 (fun e => by have := unhide HLA _ e; have := unhide HH; omega)).trans (unhide HN)
  clear c0 c1 c2 c3
  obtain ⟨_, c0, c1, c2, c3⟩ := bc_row n3
  clear n3 t3 o3 K1
  go_wp2_with fail
  refine (unhide K2' w3 (unhide P3)).mono ?_
  rintro e w4 ⟨rfl, o4, t4⟩
  have T4 := hide ((unhide T3).trans (TouchR.of_touch t4 (unhide HLB)))
  have O4 := hide ((unhide O3).touchN t4 (unhide HAB))
  have P4 := hide o4
  clear t4 o4 c0 c1 c2 c3
  go_wp2
  go_ret
  refine ⟨rfl, ⟨_, _, rfl, unhide O4, unhide P4, unhide HAB⟩, unhide T4⟩
theorem held35 (v : Value) (x : Blm) (k : Nat) (w : World) (hv : blmV w v (markX x k)) (hn : x.s.length ≤ 1048577) (hn' : x.b.length ≤ 1048577) (hk : k ≤ 4194304) :
    Calls Try.prog 35 #[v, .int .i64 (k : Int)] w fun e w' => e = .returned (.int .i64 (((k + x.s.length * 2 + x.b.length : Nat)) : Int)) ∧ Below w.heap.size w w' := by
  obtain ⟨a, b, rfl, ha, hb⟩ := hv
  obtain ⟨p, wd, ss, bs⟩ := x
  dsimp only [markX] at *
  have B1 : Below w.heap.size w (w.alloc (.cells #[.int .i64 p, .int .i64 wd, a, b] 26)) := bl_al (Below.refl _ _)
  have K1 := hide (held71 a k ss.length _ (ha.below B1) hn (by omega))
  have K2 := hide (held72 b (k + ss.length * 2) bs.length _ (hb.below B1) hn' (by omega))
  obtain ⟨_, c0, c1, c2, c3⟩ := bc_new w p wd a b 26
  have HB := hide B1
  have e1 : (k : Int) + (ss.length : Int) * 2 = ((k + ss.length * 2 : Nat) : Int) := by omega
  have e2 : ((k + ss.length * 2 : Nat) : Int) + (bs.length : Int) = ((k + ss.length * 2 + bs.length : Nat) : Int) := by omega
  rw [e1] at K1
  rw [e2] at K2
  obtain ⟨A, ca, rfl⟩ := ha.slice
  obtain ⟨A2, cb, rfl⟩ := hb.slice
  clear B1 hn hn' ha hb e1 e2 hk
  have k20 : (0 : Int) ≤ ((k + ss.length * 2 + bs.length : Nat) : Int) := by omega
  have k10 : (0 : Int) ≤ ((k + ss.length * 2 : Nat) : Int) := by omega
  generalize ((k + ss.length * 2 + bs.length : Nat) : Int) = k2 at *
  generalize ((k + ss.length * 2 : Nat) : Int) = k1 at *
  go_enter Try.func35, Try.ntmps35
  go_wp2_with fail
  refine (unhide K1).mono ?_
  rintro e w3 ⟨rfl, rfl⟩
  go_wp2_with fail
  refine (unhide K2).mono ?_
  rintro e w3 ⟨rfl, rfl⟩
  go_wp2
  go_ret
  exact ⟨rfl, unhide HB⟩
end Go.Proofs.Ythckgccfjpgbaaa
