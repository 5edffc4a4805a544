/- Peers as values: the laws' helpers over them. -/
import Derived.Test.YthonnlifgdnacaaGst
import Derived.Test.YthonnlifgdnacaaTkm
namespace Go.Proofs.Ythonnlifgdnacaa
open Go.RowKit
set_option maxHeartbeats 4000000
set_option maxRecDepth 20000
abbrev peA (q : Value) (s e : Int) (i : Value) : Value := .agg #[q, .int .i64 s, .int .i64 e, i]
/-- a peer's cells in block b -/
structure PC (b : Nat) (q : Value) (s e : Int) (i : Value) (W : World) : Prop where
  lt : b < W.heap.size
  c0 : W.cell? ⟨b, 0, none⟩ = some q
  c1 : W.cell? ⟨b, 1, none⟩ = some (.int .i64 s)
  c2 : W.cell? ⟨b, 2, none⟩ = some (.int .i64 e)
  c3 : W.cell? ⟨b, 3, none⟩ = some i
theorem pc_row {W : World} {b : Nat} {q i : Value} {s e : Int} {ty : TypeId} (h : W.heap[b]? = some (.cells #[q, .int .i64 s, .int .i64 e, i] ty (0, 0))) : PC b q s e i W :=
  ⟨(Array.getElem?_eq_some_iff.1 h).1, row_cell h, row_cell h, row_cell h, row_cell h⟩
theorem pc_new (w : World) (q : Value) (s e : Int) (i : Value) (ty : TypeId) : PC w.heap.size q s e i (w.alloc (.cells #[q, .int .i64 s, .int .i64 e, i] ty)) :=
  pc_row (heap_alloc_new w _)
theorem PC.below {b : Nat} {q i : Value} {s e : Int} {W W' : World} (h : PC b q s e i W) (hb : Below W.heap.size W W') : PC b q s e i W' :=
  ⟨Nat.lt_of_lt_of_le h.lt hb.size, (cell_below hb h.lt).trans h.c0, (cell_below hb h.lt).trans h.c1, (cell_below hb h.lt).trans h.c2, (cell_below hb h.lt).trans h.c3⟩
/-- a value that reads as this peer -/
def peV (w : World) (v : Value) (p : Pe) : Prop := ∃ q i, v = peA q p.s p.e i ∧ strsV w q p.q ∧ strsV w i p.i
/-- a peer whose lists lie in blocks of their own, between lo and hi -/
def peO (lo hi : Nat) (w : World) (v : Value) (p : Pe) : Prop :=
  ∃ q i, v = peA q p.s p.e i ∧ ownG lo hi w q p.q ∧ ownG lo hi w i p.i ∧ ∀ g, q.ownBlock = some g → i.ownBlock ≠ some g
def peFits (p : Pe) : Prop := p.q.length ≤ maxLen ∧ p.i.length ≤ maxLen ∧ (∀ t ∈ p.q, t.size ≤ maxLen) ∧ ∀ t ∈ p.i, t.size ≤ maxLen
/-- what a law lets through -/
def peFew (p : Pe) : Prop := p.q.length ≤ 1048576 ∧ p.i.length ≤ 1048576
theorem peV.below {w w' : World} {v : Value} {p : Pe} (h : peV w v p) (hb : Below w.heap.size w w') : peV w' v p := by
  obtain ⟨a, b, rfl, h1, h2⟩ := h
  exact ⟨a, b, rfl, h1.below hb, h2.below hb⟩
theorem peO.pe {lo hi : Nat} {w : World} {v : Value} {p : Pe} (h : peO lo hi w v p) : peV w v p := by
  obtain ⟨a, b, rfl, ha, hb, _⟩ := h
  exact ⟨a, b, rfl, ha.strs, hb.strs⟩
theorem peO.below {lo hi : Nat} {w w' : World} {v : Value} {p : Pe} (h : peO lo hi w v p) (hb : Below w.heap.size w w') : peO lo hi w' v p := by
  obtain ⟨a, b, rfl, h1, h2, h3⟩ := h
  exact ⟨a, b, rfl, h1.below hb, h2.below hb, h3⟩
theorem peO.wide {lo hi lo' hi' : Nat} {w : World} {v : Value} {p : Pe} (h : peO lo hi w v p) (e1 : lo' ≤ lo) (e2 : hi ≤ hi') : peO lo' hi' w v p := by
  obtain ⟨a, b, rfl, h1, h2, h3⟩ := h
  exact ⟨a, b, rfl, h1.wide e1 e2, h2.wide e1 e2, h3⟩
theorem peO.touchR {lo hi lo' hi' : Nat} {w w' : World} {v : Value} {p : Pe} (h : peO lo hi w v p) (ht : TouchR lo' hi' w w') (hd : hi ≤ lo' ∨ hi' ≤ lo) : peO lo hi w' v p := by
  obtain ⟨a, b, rfl, h1, h2, h3⟩ := h
  exact ⟨a, b, rfl, h1.touchR ht hd, h2.touchR ht hd, h3⟩
theorem peO.lone {q lo hi : Nat} {w w' : World} {v : Value} {p : Pe} (h : peO lo hi w v p) (hl : Lone q w w') (hq : q < lo ∨ hi ≤ q) : peO lo hi w' v p := by
  obtain ⟨a, b, rfl, h1, h2, h3⟩ := h
  exact ⟨a, b, rfl, h1.lone hl hq, h2.lone hl hq, h3⟩
theorem peV.slices {w : World} {v : Value} {p : Pe} (h : peV w v p) : ∃ A c A' c', v = peA (.slice A p.q.length c) p.s p.e (.slice A' p.i.length c') := by
  obtain ⟨a, b, rfl, h1, h2⟩ := h
  obtain ⟨A, c, rfl⟩ := h1.slice
  obtain ⟨A', c', rfl⟩ := h2.slice
  exact ⟨A, c, A', c', rfl⟩
theorem apartG {lo mid hi : Nat} {w w' : World} {a b : Value} {xs ys : List ByteArray} (ha : ownG lo mid w a xs) (hb : ownG mid hi w' b ys) : ∀ g, a.ownBlock = some g → b.ownBlock ≠ some g := by
  intro g h1 h2
  have := ha.lies g h1
  have := hb.lies g h2
  omega
abbrev noP : Value := peA (.slice none 0 0) 0 0 (.slice none 0 0)
theorem own_noP (lo hi : Nat) (w : World) : peO lo hi w noP pe0 :=
  ⟨_, _, rfl, .inl ⟨rfl, rfl⟩, .inl ⟨rfl, rfl⟩, fun g h => by cases h⟩
theorem lone_setRow (q : Nat) (X : World) (cs : Array Value) : Lone q X (X.setRow q cs) :=
  ⟨rfl, rfl, rfl, by simp, fun k _ hne => get_setRow_other hne⟩
theorem sz25 (v : Value) (p : Pe) (L : Int) (w : World) (hv : peV w v p) (hf : peFits p) (hL : 0 ≤ L) (hL' : L ≤ 1048576) :
    Calls Try.prog 25 #[v, .int .i64 L] w fun e w' => ∃ z : Int, e = .returned (.int .i64 z) ∧ (z < 0 ∨ 0 ≤ z ∧ z + (p.q.length : Int) + (p.i.length : Int) ≤ L) ∧ Below w.heap.size w w' := by
  obtain ⟨q, i, rfl, hq, hi⟩ := hv
  obtain ⟨f1, f2, f3, f4⟩ := hf
  obtain ⟨xq, s, e, xi⟩ := p
  dsimp only at *
  have B0 : Below w.heap.size w (w.alloc (.cells #[q, .int .i64 s, .int .i64 e, i] 48)) := bl_al (Below.refl _ _)
  have K1 := hide (szS q xq L _ (hq.below B0) f1 f3 hL hL')
  have K2 := hide (fun (L : Int) hL hL' => szS i xi L _ (hi.below B0) f2 f4 hL hL')
  obtain ⟨_, c0, c1, c2, c3⟩ := pc_new w q s e i 48
  have HB0 := hide B0
  obtain ⟨A, ca, rfl⟩ := hq.slice
  obtain ⟨A2, cb, rfl⟩ := hi.slice
  have HL := hide (show 0 ≤ L ∧ L ≤ 1048576 from ⟨hL, hL'⟩)
  clear B0 hq hi f1 f2 f3 f4 hL hL'
  go_enter Try.func25, Try.ntmps25
  go_wp2_with fail
  refine (unhide K1).mono ?_
  rintro e w1 ⟨z1, rfl, hz1, hw⟩
  have hw2 := hw.symm
  subst hw2
  clear K1
  by_cases nz1 : z1 < 0
  · clear hz1 K2
    go_wp2
    go_ret
    exact ⟨_, rfl, .inl (by omega), unhide HB0⟩
  have gz1 := Or.resolve_left hz1 nz1
  have pz1 := gz1.1
  have G1 := hide gz1
  have J2 := hide (unhide K2 z1 gz1.1 (by have := unhide HL; omega))
  clear hz1 nz1 gz1 K2
  go_wp2_with fail
  refine (unhide J2).mono ?_
  rintro e w1 ⟨z2, rfl, hz2, hw⟩
  have hw2 := hw.symm
  subst hw2
  clear J2
  by_cases nz2 : z2 < 0
  · clear hz2
    go_wp2
    go_ret
    exact ⟨_, rfl, .inl (by omega), unhide HB0⟩
  have gz2 := Or.resolve_left hz2 nz2
  have pz2 := gz2.1
  have G2 := hide gz2
  clear hz2 nz2 gz2
  go_wp2
  go_ret
  exact ⟨_, rfl, .inr ⟨(unhide G2).1, by have := unhide G1; have := unhide G2; omega⟩, unhide HB0⟩
theorem to27 (v : Value) (p : Pe) (w : World) (hv : peV w v p) (hf : peFew p) :
    Calls Try.prog 27 #[v] w fun e w' => ∃ r, e = .returned r ∧ peO w.heap.size w'.heap.size w' r p ∧ Below w.heap.size w w' := by
  obtain ⟨q, i, rfl, hq, hi⟩ := hv
  obtain ⟨f1, f2⟩ := hf
  obtain ⟨xq, s, e, xi⟩ := p
  dsimp only at *
  have P0 := pc_new w q s e i 48
  have B1 : Below w.heap.size w (w.alloc (.cells #[q, .int .i64 s, .int .i64 e, i] 48)) := bl_al (Below.refl _ _)
  have B2 := bl_al (o := .cells #[.slice none 0 0, .int .i64 0, .int .i64 0, .slice none 0 0] 33) B1
  have B3 := bl_al (o := .cells #[.slice none 0 0, .int .i64 0, .int .i64 0, .slice none 0 0] 33) B2
  have K1 := hide (to30 q xq _ (hq.below B3) (by omega))
  have K2 := hide (fun W (h : strsV W i xi) => to30 i xi W h (by omega))
  have HI := hide hi
  have n0 : (((w.alloc (.cells #[q, .int .i64 s, .int .i64 e, i] 48)).alloc (.cells #[.slice none 0 0, .int .i64 0, .int .i64 0, .slice none 0 0] 33)).alloc (.cells #[.slice none 0 0, .int .i64 0, .int .i64 0, .slice none 0 0] 33)).heap[w.heap.size]? = some (.cells #[q, .int .i64 s, .int .i64 e, i] 48 (0, 0)) := by
    rw [Below.heap_alloc _ _ _ (by simp; omega), Below.heap_alloc _ _ _ (by simp)]
    exact heap_at _ _ _ rfl
  have n1 : (((w.alloc (.cells #[q, .int .i64 s, .int .i64 e, i] 48)).alloc (.cells #[.slice none 0 0, .int .i64 0, .int .i64 0, .slice none 0 0] 33)).alloc (.cells #[.slice none 0 0, .int .i64 0, .int .i64 0, .slice none 0 0] 33)).heap[w.heap.size + 1]? = some (.cells #[.slice none 0 0, .int .i64 0, .int .i64 0, .slice none 0 0] 33 (0, 0)) := by
    rw [Below.heap_alloc _ _ _ (by simp)]
    exact heap_at _ _ _ (by simp)
  have n2 : (((w.alloc (.cells #[q, .int .i64 s, .int .i64 e, i] 48)).alloc (.cells #[.slice none 0 0, .int .i64 0, .int .i64 0, .slice none 0 0] 33)).alloc (.cells #[.slice none 0 0, .int .i64 0, .int .i64 0, .slice none 0 0] 33)).heap[w.heap.size + 1 + 1]? = some (.cells #[.slice none 0 0, .int .i64 0, .int .i64 0, .slice none 0 0] 33 (0, 0)) := heap_at _ _ _ (by simp)
  have HN0 := hide n0
  have HN1 := hide n1
  have HN2 := hide n2
  have HB3 := hide B3
  obtain ⟨_, c0, c1, c2, c3⟩ := P0
  obtain ⟨A, ca, rfl⟩ := hq.slice
  obtain ⟨A2, cb, rfl⟩ := hi.slice
  clear B1 B2 B3 n0 n1 n2 hq hi f1 f2
  go_enter Try.func27, Try.ntmps27
  go_wp2_with fail
  generalize ((w.alloc (.cells #[.slice A xq.length ca, .int .i64 s, .int .i64 e, .slice A2 xi.length cb] 48)).alloc (.cells #[.slice none 0 0, .int .i64 0, .int .i64 0, .slice none 0 0] 33)).alloc (.cells #[.slice none 0 0, .int .i64 0, .int .i64 0, .slice none 0 0] 33) = w3 at *
  refine (unhide K1).mono ?_
  rintro e1 w4 ⟨u, rfl, o4, b4⟩
  have n0 := (b4.block _ (Array.getElem?_eq_some_iff.1 (unhide HN0)).1).trans (unhide HN0)
  have n1 := (b4.block _ (Array.getElem?_eq_some_iff.1 (unhide HN1)).1).trans (unhide HN1)
  have n2 := (b4.block _ (Array.getElem?_eq_some_iff.1 (unhide HN2)).1).trans (unhide HN2)
  have L3 := hide (Array.getElem?_eq_some_iff.1 (unhide HN2)).1
  have L4 := hide b4.size
  have B4 := hide (bl_st b4 (unhide HB3))
  have O4 := hide (ownG.of_ownS o4)
  obtain ⟨A', c', rfl⟩ := o4.strs.slice
  have t0 : w4.cell? ⟨w.heap.size + 1 + 1, 0, none⟩ = some (.slice none 0 0) := row_cell n2
  have t1 : w4.cell? ⟨w.heap.size + 1 + 1, 1, none⟩ = some (.int .i64 0) := row_cell n2
  have t2 : w4.cell? ⟨w.heap.size + 1 + 1, 2, none⟩ = some (.int .i64 0) := row_cell n2
  have z0 : w4.frozen? ⟨w.heap.size + 1 + 1, 0, none⟩ = false := row_free n2
  have z1 : w4.frozen? ⟨w.heap.size + 1 + 1, 1, none⟩ = false := row_free n2
  have z2 : w4.frozen? ⟨w.heap.size + 1 + 1, 2, none⟩ = false := row_free n2
  clear c0 c1 c2 c3
  obtain ⟨_, c0, c1, c2, c3⟩ := pc_row n0
  have L5 : Hid (Lone (w.heap.size + 1 + 1) w4 (((w4.setCell ⟨w.heap.size + 1 + 1, 0, none⟩ (.slice A' xq.length c')).setCell ⟨w.heap.size + 1 + 1, 1, none⟩ (.int .i64 s)).setCell ⟨w.heap.size + 1 + 1, 2, none⟩ (.int .i64 e))) := hide (((lone_setCell _ _ _ _).trans (lone_setCell _ _ _ _)).trans (lone_setCell _ _ _ _))
  have M2 := row_set (i := 2) (v := .int .i64 e) (row_set (i := 1) (v := .int .i64 s) (row_set (i := 0) (v := .slice A' xq.length c') n2))
  simp only [List.setIfInBounds_toArray, List.set_cons_zero, List.set_cons_succ] at M2
  have HM2 := hide M2
  have HN1 := hide n1
  clear n0 n1 n2 o4 b4 K1 HN0 HN2 M2
  go_wp2_with fail
  generalize hw5 : ((w4.setCell ⟨w.heap.size + 1 + 1, 0, none⟩ (.slice A' xq.length c')).setCell ⟨w.heap.size + 1 + 1, 1, none⟩ (.int .i64 s)).setCell ⟨w.heap.size + 1 + 1, 2, none⟩ (.int .i64 e) = w5 at *
  have Z5 : Hid (w5.heap.size = w4.heap.size) := hide (by rw [← hw5, size_set, size_set, size_set])
  clear hw5
  have B5 := hide ((unhide L5).below (unhide B4) (by omega) (unhide B4).size)
  have O5 := hide ((unhide O4).lone (unhide L5) (by have := unhide L3; omega))
  have N1 := hide (((unhide L5).block _ (Array.getElem?_eq_some_iff.1 (unhide HN1)).1 (by omega)).trans (unhide HN1))
  refine (unhide K2 w5 ((unhide HI).below (unhide B5))).mono ?_
  rintro e1 w6 ⟨u, rfl, o6, b6⟩
  have n1 := (b6.block _ (Array.getElem?_eq_some_iff.1 (unhide N1)).1).trans (unhide N1)
  have n2 := (b6.block _ (Array.getElem?_eq_some_iff.1 (unhide HM2)).1).trans (unhide HM2)
  have L6 := hide b6.size
  have O6 := hide ((unhide O5).below b6)
  have P6 := hide (ownG.of_ownS o6)
  have B6 := hide (bl_st b6 (unhide B5))
  obtain ⟨A'', c'', rfl⟩ := o6.strs.slice
  have t3 : w6.cell? ⟨w.heap.size + 1 + 1, 3, none⟩ = some (.slice none 0 0) := row_cell n2
  have z3 : w6.frozen? ⟨w.heap.size + 1 + 1, 3, none⟩ = false := row_free n2
  have m2 := row_set (i := 3) (v := .slice A'' xi.length c'') n2
  simp only [List.setIfInBounds_toArray, List.set_cons_zero, List.set_cons_succ] at m2
  have M2 := hide m2
  have M1 := hide (row_set_other (i := 3) (v := .slice A'' xi.length c'') n1 (show w.heap.size + 1 + 1 ≠ w.heap.size + 1 by omega))
  have L7 := hide (lone_setCell (w.heap.size + 1 + 1) 3 w6 (.slice A'' xi.length c''))
  have S7 := hide (size_set w6 (w.heap.size + 1 + 1) 3 (.slice A'' xi.length c''))
  clear n1 n2 m2 o6 b6 c0 c1 c2 c3 t0 t1 t2 z0 z1 z2 K2 HM2 HN1 N1
  go_wp2_with (first
    | (with_reducible change wpList _ _ _ _ _ (World.setCell w6 ⟨w.heap.size + 1 + 1, 3, none⟩ (.slice A'' xi.length c'')); clear t3 z3; generalize World.setCell w6 ⟨w.heap.size + 1 + 1, 3, none⟩ (.slice A'' xi.length c'') = w7 at *)
    | refine wpList_load_row rfl 33 _ rfl (w.heap.size + 1 + 1) rfl 33 #[.slice A' xq.length c', .int .i64 s, .int .i64 e, .slice A'' xi.length c''] (0, 0) _ (unhide M2) Try.underlying33 rfl (by kernel_rfl) ?_
    | refine wpList_store_row rfl 33 _ _ rfl (w.heap.size + 1) #[.slice A' xq.length c', .int .i64 s, .int .i64 e, .slice A'' xi.length c''] rfl rfl 33 #[.slice none 0 0, .int .i64 0, .int .i64 0, .slice none 0 0] (unhide M1) (by kernel_rfl) rfl (by kernel_rfl) ?_)
  have L8 : Hid (Lone (w.heap.size + 1) w7 (w7.setRow (w.heap.size + 1) #[.slice A' xq.length c', .int .i64 s, .int .i64 e, .slice A'' xi.length c''])) := hide (lone_setRow _ _ _)
  have hB := unhide B6
  refine bodyPost_ret (v := peA (.slice A' xq.length c') s e (.slice A'' xi.length c'')) ?_ rfl ⟨_, rfl, ⟨_, _, rfl, ?_, ?_, apartG (unhide O6) ((unhide P6).wide (by have := unhide Z5; omega) (Nat.le_refl _))⟩, ?_⟩
  · exact results_cell_row rfl _ _ (w.heap.size + 1) 33 _ (0, 0) _ rfl (get_setRow (unhide M1)) Try.underlying33 rfl (by kernel_rfl)
  · have l3 := unhide L3
    have l4 := unhide L4
    have l6 := unhide L6
    have s7 := unhide S7
    have z5 := unhide Z5
    exact (((unhide O6).lone (unhide L7) (by omega)).lone (unhide L8) (by omega)).wide (by omega) (by rw [size_setRow]; omega)
  · have l3 := unhide L3
    have l4 := unhide L4
    have l6 := unhide L6
    have s7 := unhide S7
    have z5 := unhide Z5
    exact (((unhide P6).lone (unhide L7) (by omega)).lone (unhide L8) (by omega)).wide (by omega) (by rw [size_setRow]; omega)
  · exact (unhide L8).below ((unhide L7).below hB (by omega) hB.size) (by omega) (Nat.le_trans hB.size (unhide L7).size)
theorem eq28 (v u : Value) (p : Pe) (w : World) (hv : peV w v p) (hu : peV w u p) (hf : peFew p) :
    Calls Try.prog 28 #[v, u] w fun e w' => e = .returned (.bool true) ∧ Below w.heap.size w w' := by
  obtain ⟨q, i, rfl, hq, hi⟩ := hv
  obtain ⟨q', i', rfl, hq', hi'⟩ := hu
  obtain ⟨f1, f2⟩ := hf
  obtain ⟨xq, s, e, xi⟩ := p
  dsimp only at *
  have B1 : Below w.heap.size w (w.alloc (.cells #[q, .int .i64 s, .int .i64 e, i] 33)) := bl_al (Below.refl _ _)
  have B2 := bl_al (o := .cells #[q', .int .i64 s, .int .i64 e, i'] 33) B1
  have K1 := hide (eq33 q q' xq _ (hq.below B2) (hq'.below B2) (by omega))
  have K2 := hide (fun W (h : strsV W i xi) (h' : strsV W i' xi) => eq33 i i' xi W h h' (by omega))
  have C := (pc_new w q s e i 33).below (bl_al (o := .cells #[q', .int .i64 s, .int .i64 e, i'] 33) (Below.refl _ _))
  have D := pc_new (w.alloc (.cells #[q, .int .i64 s, .int .i64 e, i] 33)) q' s e i' 33
  rw [show (w.alloc (.cells #[q, .int .i64 s, .int .i64 e, i] 33)).heap.size = w.heap.size + 1 by simp] at D
  have HC := hide C
  have HD := hide D
  obtain ⟨_, c0, c1, c2, c3⟩ := C
  obtain ⟨_, d0, d1, d2, d3⟩ := D
  have HB := hide B2
  have H1 := hide hi
  have H2 := hide hi'
  obtain ⟨A, ca, rfl⟩ := hq.slice
  obtain ⟨A2, cb, rfl⟩ := hi.slice
  obtain ⟨A', ca', rfl⟩ := hq'.slice
  obtain ⟨A2', cb', rfl⟩ := hi'.slice
  clear B1 B2 hq hi hq' hi' f1 f2
  go_enter Try.func28, Try.ntmps28
  go_wp2_with fail
  generalize (w.alloc (.cells #[.slice A xq.length ca, .int .i64 s, .int .i64 e, .slice A2 xi.length cb] 33)).alloc (.cells #[.slice A' xq.length ca', .int .i64 s, .int .i64 e, .slice A2' xi.length cb'] 33) = w2 at *
  refine (unhide K1).mono ?_
  rintro e1 w3 ⟨rfl, k, hk⟩
  have b3 : Below w2.heap.size w2 w3 := by rw [hk]; exact below_drewN (Below.refl _ _) _
  clear c0 c1 c2 c3 d0 d1 d2 d3 hk
  obtain ⟨_, c0, c1, c2, c3⟩ := (unhide HC).below b3
  obtain ⟨_, d0, d1, d2, d3⟩ := (unhide HD).below b3
  have B3 := hide (bl_st b3 (unhide HB))
  have V1 := hide ((unhide H1).below (unhide B3))
  have V2 := hide ((unhide H2).below (unhide B3))
  clear b3 K1 HB H1 H2 HC HD
  go_wp2_with fail
  refine (unhide K2 w3 (unhide V1) (unhide V2)).mono ?_
  rintro e1 w4 ⟨rfl, k, rfl⟩
  go_wp2
  go_ret
  exact ⟨rfl, below_drewN (unhide B3) k⟩
def markP (p : Pe) (k : Nat) : Pe := ⟨marksK k p.q.length, p.s, p.e, marksK (k + p.q.length) p.i.length⟩
theorem mark29 (lo hi : Nat) (v : Value) (p : Pe) (k : Nat) (w : World) (hv : peO lo hi w v p) (hf : peFew p) (hk : k ≤ 1048576) (hh : hi ≤ w.heap.size) :
    Calls Try.prog 29 #[v, .int .i64 (k : Int)] w fun e w' => e = .returned (.int .i64 (((k + p.q.length + p.i.length : Nat)) : Int)) ∧ peO lo hi w' v (markP p k) ∧ TouchR lo hi w w' := by
  obtain ⟨q, i, rfl, hq, hi', hqi⟩ := hv
  obtain ⟨f1, f2⟩ := hf
  obtain ⟨xq, s, e, xi⟩ := p
  dsimp only [markP] at *
  have B1 : Below w.heap.size w (w.alloc (.cells #[q, .int .i64 s, .int .i64 e, i] 33)) := bl_al (Below.refl _ _)
  have K1 := hide (markG lo hi q xq k _ (hq.below B1) (by omega) (by omega))
  have K2 := hide (fun W (h : ownG lo hi W i xi) => markG lo hi i xi (k + xq.length) W h (by omega) (by omega))
  have C := pc_new w q s e i 33
  obtain ⟨_, c0, c1, c2, c3⟩ := C
  have T1 := hide (TouchR.of_below (lo := lo) (hi := hi) B1)
  have HN := hide (heap_alloc_new w (.cells #[q, .int .i64 s, .int .i64 e, i] 33))
  have HBA := hide (hi'.below B1)
  have HLA := hide hq.lies
  have HLB := hide hi'.lies
  have HAB := hide hqi
  have HH := hide hh
  have e1 : (k : Int) + (xq.length : Int) = ((k + xq.length : Nat) : Int) := by omega
  have e2 : ((k + xq.length : Nat) : Int) + (xi.length : Int) = ((k + xq.length + xi.length : Nat) : Int) := by omega
  rw [e1] at K1
  have K2' : Hid (∀ W, ownG lo hi W i xi → Calls Try.prog 65 #[i, .int .i64 ((k + xq.length : Nat) : Int)] W fun e w' => e = .returned (.int .i64 ((k + xq.length + xi.length : Nat) : Int)) ∧ ownG lo hi w' i (marksK (k + xq.length) xi.length) ∧ TouchS i W w') := hide fun W h => by
    have := unhide K2 W h
    rw [e2] at this
    exact this
  obtain ⟨A, ca, rfl⟩ := hq.strs.slice
  obtain ⟨A2, cb, rfl⟩ := hi'.strs.slice
  clear B1 hq hi' e1 e2 K2 hqi hh hk f1 f2
  generalize ((k + xq.length + xi.length : Nat) : Int) = k2 at *
  generalize k + xq.length = k1 at *
  go_enter Try.func29, Try.ntmps29
  go_wp2_with fail
  generalize w.alloc (.cells #[.slice A xq.length ca, .int .i64 s, .int .i64 e, .slice A2 xi.length cb] 33) = w2 at *
  refine (unhide K1).mono ?_
  rintro e1 w3 ⟨rfl, o3, t3⟩
  have T3 := hide ((unhide T1).trans (TouchR.of_touch t3 (unhide HLA)))
  have O3 := hide o3
  have P3 := hide ((unhide HBA).touchS t3 fun g h1 h2 => unhide HAB g h2 h1)
  have n3 := (t3.block _ (Array.getElem?_eq_some_iff.1 (unhide HN)).1 (fun e => by have := unhide HLA _ e; have := unhide HH; omega)).trans (unhide HN)
  clear c0 c1 c2 c3
  obtain ⟨_, c0, c1, c2, c3⟩ := pc_row n3
  clear n3 t3 o3 K1
  go_wp2_with fail
  refine (unhide K2' w3 (unhide P3)).mono ?_
  rintro e1 w4 ⟨rfl, o4, t4⟩
  have T4 := hide ((unhide T3).trans (TouchR.of_touch t4 (unhide HLB)))
  have O4 := hide ((unhide O3).touchS t4 (unhide HAB))
  have P4 := hide o4
  clear t4 o4 c0 c1 c2 c3
  go_wp2
  go_ret
  refine ⟨rfl, ⟨_, _, ?_, unhide O4, unhide P4, unhide HAB⟩, unhide T4⟩
  rfl
theorem held30 (v : Value) (p : Pe) (k : Nat) (w : World) (hv : peV w v (markP p k)) (hf : peFew p) (hk : k ≤ 1048576) :
    Calls Try.prog 30 #[v, .int .i64 (k : Int)] w fun e w' => e = .returned (.int .i64 (((k + p.q.length + p.i.length : Nat)) : Int)) ∧ Below w.heap.size w w' := by
  obtain ⟨q, i, rfl, hq, hi⟩ := hv
  obtain ⟨f1, f2⟩ := hf
  obtain ⟨xq, s, e, xi⟩ := p
  dsimp only [markP] at *
  have B1 : Below w.heap.size w (w.alloc (.cells #[q, .int .i64 s, .int .i64 e, i] 33)) := bl_al (Below.refl _ _)
  have K1 := hide (held66 q k xq.length _ (hq.below B1) (by omega) (by omega))
  have K2 := hide (fun W (h : strsV W i (marksK (k + xq.length) xi.length)) => held66 i (k + xq.length) xi.length W h (by omega) (by omega))
  have C := pc_new w q s e i 33
  have HC := hide C
  obtain ⟨_, c0, c1, c2, c3⟩ := C
  have HI := hide (hi.below B1)
  have HB := hide B1
  have e1 : (k : Int) + (xq.length : Int) = ((k + xq.length : Nat) : Int) := by omega
  have e2 : ((k + xq.length : Nat) : Int) + (xi.length : Int) = ((k + xq.length + xi.length : Nat) : Int) := by omega
  rw [e1] at K1
  rw [e2] at K2
  obtain ⟨A, ca, rfl⟩ := hq.slice
  obtain ⟨A2, cb, rfl⟩ := hi.slice
  clear B1 hq hi e1 e2 hk f1 f2
  have k20 : (0 : Int) ≤ ((k + xq.length + xi.length : Nat) : Int) := by omega
  have k10 : (0 : Int) ≤ ((k + xq.length : Nat) : Int) := by omega
  generalize ((k + xq.length + xi.length : Nat) : Int) = k2 at *
  generalize ((k + xq.length : Nat) : Int) = k1 at *
  go_enter Try.func30, Try.ntmps30
  go_wp2_with fail
  refine (unhide K1).mono ?_
  rintro e1 w3 ⟨rfl, b3⟩
  have B3 := hide (bl_st b3 (unhide HB))
  have HI3 := hide ((unhide HI).below b3)
  clear c0 c1 c2 c3
  obtain ⟨_, c0, c1, c2, c3⟩ := (unhide HC).below b3
  clear b3 HB HI HC K1
  go_wp2_with fail
  refine (unhide K2 w3 (unhide HI3)).mono ?_
  rintro e1 w4 ⟨rfl, b4⟩
  have B4 := hide (bl_st b4 (unhide B3))
  clear b4 c0 c1 c2 c3
  go_wp2
  go_ret
  exact ⟨rfl, unhide B4⟩
end Go.Proofs.Ythonnlifgdnacaa
