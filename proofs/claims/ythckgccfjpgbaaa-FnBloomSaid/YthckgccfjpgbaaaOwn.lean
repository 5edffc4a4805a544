/- A filter copied by the specification; answers of a filter and a code. -/
import Derived.Test.YthckgccfjpgbaaaPla
import Derived.Test.YthckgccfjpgbaaaApp
namespace Go.Proofs.Ythckgccfjpgbaaa
open Go.RowKit
set_option maxHeartbeats 4000000
set_option maxRecDepth 20000
theorem results_tmp_row {P : Program} {fn : Func} {p u : Tmp} {ty : TypeId} (h : fn.results = #[.cell p ty, .tmp u]) (tmps : Array Value) (w : World) (g : Nat) (t : TypeId) (cs : Array Value) (fr : Nat × Nat) (d : TypeDesc) (x : Value)
    (hp : tmps.getD p undef = .pointer (some ⟨g, 0, none⟩)) (hx : tmps.getD u undef = x) (hg : w.heap[g]? = some (.cells cs t fr))
    (hu : P.underlying ty = some d) (hd : (match d with | .struct _ | .array _ _ => true | _ => false) = true) (hi : (P.info? ty).map (·.size) = some cs.size) :
    (results fn tmps).run P w = .ok (.tuple #[.agg cs, x]) w := by
  rw [results_cell_tmp h, hp, hx]
  simp [asAddr, run_loadVar_row w g t ty cs fr d hg hu hd hi]
/-- four cells of a filter, one after the other -/
abbrev put4 (W : World) (g : Nat) (p wd : Int) (a b : Value) : World := (((W.setCell ⟨g, 0, none⟩ (.int .i64 p)).setCell ⟨g, 1, none⟩ (.int .i64 wd)).setCell ⟨g, 2, none⟩ a).setCell ⟨g, 3, none⟩ b
theorem row_put4 {W : World} {g : Nat} {x0 x1 x2 x3 : Value} (h : W.heap[g]? = some (.cells #[x0, x1, x2, x3] 26 (0, 0))) (p wd : Int) (a b : Value) : (put4 W g p wd a b).heap[g]? = some (.cells #[.int .i64 p, .int .i64 wd, a, b] 26 (0, 0)) := by
  simpa using row_set (i := 3) (v := b) (row_set (i := 2) (v := a) (row_set (i := 1) (v := .int .i64 wd) (row_set (i := 0) (v := .int .i64 p) h)))
theorem lone_put4 (W : World) (g : Nat) (p wd : Int) (a b : Value) : Lone g W (put4 W g p wd a b) :=
  (((lone_setCell g 0 W _).trans (lone_setCell g 1 _ _)).trans (lone_setCell g 2 _ _)).trans (lone_setCell g 3 _ _)
theorem size_put4 (W : World) (g : Nat) (p wd : Int) (a b : Value) : (put4 W g p wd a b).heap.size = W.heap.size := by
  rw [size_set, size_set, size_set, size_set]
theorem bl_put4 {B g : Nat} {x X : World} {p wd : Int} {a b : Value} (h : Below B x X) (hq : B ≤ g) : Below B x (put4 X g p wd a b) := bl_set (bl_set (bl_set (bl_set h hq) hq) hq) hq
theorem ownX.lone {q lo hi : Nat} {w w' : World} {v : Value} {x : Blm} (h : ownX lo hi w v x) (hl : Lone q w w') (hq : q < lo) : ownX lo hi w' v x := by
  obtain ⟨a, b, rfl, h1, h2, h3⟩ := h
  exact ⟨a, b, rfl, h1.lone hl hq, h2.lone hl hq, h3⟩
theorem ownX.slices {lo hi : Nat} {w : World} {v : Value} {x : Blm} (h : ownX lo hi w v x) : ∃ A n c A' n' c', v = bloV x.p x.w (.slice A n c) (.slice A' n' c') := by
  obtain ⟨a, b, rfl, h1, h2, h3⟩ := h
  obtain ⟨A, c, rfl⟩ := h1.salts.slice
  obtain ⟨A', c', rfl⟩ := h2.bools.slice
  exact ⟨A, _, c, A', _, c', rfl⟩
abbrev noX : Blm := ⟨0, 0, [], []⟩
theorem own_noX (lo hi : Nat) (w : World) : ownX lo hi w (bloV 0 0 (.slice none 0 0) (.slice none 0 0)) noX :=
  ⟨_, _, rfl, .inl ⟨rfl, rfl⟩, .inl ⟨rfl, rfl⟩, fun g h => by cases h⟩
/-- an answer of a filter and a code -/
def outX (w : World) (y : Blm) (c : Int) (e : Ending) (w' : World) : Prop := ∃ r, e = .returned (.tuple #[r, .int .i64 c]) ∧ ownX w.heap.size w'.heap.size w' r y ∧ Below w.heap.size w w'
theorem grown_made {w1 w3 : World} {o : Obj} {k n c : Nat} (gr : (w1.alloc o).grownBy w3 (Value.slice (some ⟨k, 0, none⟩) n c).ownBlock) (hk : k = w1.heap.size) : Below w1.heap.size w1 w3 := by
  subst hk
  exact Below.grown ((Below.refl _ _).alloc (Nat.le_refl _) _) gr (by simp) (by simp [Value.ownBlock])
theorem own54 (v : Value) (x : Blm) (w : World) (hv : blmV w v x) (hn : x.s.length ≤ 2097152) (hn' : x.b.length ≤ 2097152) :
    Calls Try.prog 54 #[v] w fun e w' => ∃ r, e = .returned r ∧ ownX w.heap.size w'.heap.size w' r x ∧ Below w.heap.size w w' := by
  obtain ⟨a, b, rfl, ha, hb⟩ := hv
  obtain ⟨A, ca, rfl⟩ := ha.slice
  obtain ⟨A2, cb, rfl⟩ := hb.slice
  obtain ⟨p, wd, ss, bs⟩ := x
  dsimp only at *
  have C := bc_new w p wd (.slice A ss.length ca) (.slice A2 bs.length cb) 26
  have n0 := heap_alloc_new w (.cells #[.int .i64 p, .int .i64 wd, .slice A ss.length ca, .slice A2 bs.length cb] 26)
  have B0 : Below w.heap.size w (w.alloc (.cells #[.int .i64 p, .int .i64 wd, .slice A ss.length ca, .slice A2 bs.length cb] 26)) := bl_al (Below.refl _ _)
  generalize hw0 : w.alloc (.cells #[.int .i64 p, .int .i64 wd, .slice A ss.length ca, .slice A2 bs.length cb] 26) = w0 at *
  have e0 : w0.heap.size = w.heap.size + 1 := by rw [← hw0]; simp
  have BA : Below w0.heap.size w0 (w0.alloc (.cells #[.int .i64 0, .int .i64 0, .slice none 0 0, .slice none 0 0] 26)) := bl_al (Below.refl _ _)
  have C1 := C.below BA
  have N0 := hide ((BA.block _ C.lt).trans n0)
  have N1 := hide (heap_alloc_new w0 (.cells #[.int .i64 0, .int .i64 0, .slice none 0 0, .slice none 0 0] 26))
  have B1 := hide (bl_st BA B0)
  generalize hw1 : w0.alloc (.cells #[.int .i64 0, .int .i64 0, .slice none 0 0, .slice none 0 0] 26) = w1 at *
  have e1 : w1.heap.size = w.heap.size + 1 + 1 := by rw [← hw1]; simp [e0]
  have BB : Below w1.heap.size w1 (w1.alloc (.cells #[] 67)) := bl_al (Below.refl _ _)
  have V1 := hide ((ha.below (unhide B1)).below BB)
  have C2 := C1.below BB
  have HBB := hide hb
  rw [e0] at N1
  have E1 := hide e1
  have HN := hide hn
  have HN' := hide hn'
  have HW1 := hide hw1
  have HW0 := hide hw0
  subst hw1 hw0
  clear n0 ha hb hn hn' BA B0
  obtain ⟨_, c0, c1, c2, c3⟩ := C1
  obtain ⟨_, d0, d1, d2, d3⟩ := C2
  go_enter Try.func54, Try.ntmps54
  go_wp2_with (at_builtin; first | (refine wpList_append_salts _ rfl _ _ rfl (w.heap.size + 1 + 1) 0 (.slice (some ⟨w.heap.size + 1 + 1, 0, none⟩) 0 0) [] rfl (by rw [← unhide E1]; exact World.ownsRow_made _ #[] 0 (Nat.le_refl _) (Nat.zero_le _) rfl) ⟨_, _, rfl⟩ (.slice A ss.length ca) ss rfl (unhide V1) (by have := unhide HN; omega) (by simp) ?_; intro g1 k1 w3 own1 gr1; have b3 := grown_made gr1 (unhide E1).symm; have n0 := (b3.block _ (Array.getElem?_eq_some_iff.1 (unhide N0)).1).trans (unhide N0); have n1 := (b3.block _ (Array.getElem?_eq_some_iff.1 (unhide N1)).1).trans (unhide N1); have B3 := hide (bl_st b3 (unhide B1)); rw [Nat.zero_add, List.nil_append] at own1; have O3 := hide (own_salts own1 ⟨_, _, rfl⟩); have L3 : Hid (w.heap.size + 1 + 1 ≤ w3.heap.size) := hide (by have := b3.size; have := unhide E1; omega); clear b3 own1 gr1 c0 c1 c2 c3 d0 d1 d2 d3 V1 B1 N0 N1; obtain ⟨_, c0, c1, c2, c3⟩ := bc_row n0; have f2 : w3.frozen? ⟨w.heap.size, 2, none⟩ = false := row_free n0; have N0 := hide (row_set (i := 2) (v := .slice (some ⟨g1, 0, none⟩) ss.length k1) n0); have N1 := hide (row_set_other (t' := w.heap.size) (i := 2) (v := .slice (some ⟨g1, 0, none⟩) ss.length k1) n1 (by omega)); have OX := hide ((unhide O3).lone (lone_setCell w.heap.size 2 w3 (.slice (some ⟨g1, 0, none⟩) ss.length k1)) (by omega)); have BX := hide (bl_set (i := 2) (v := .slice (some ⟨g1, 0, none⟩) ss.length k1) (unhide B3) (Nat.le_refl w.heap.size)); have SX := hide (size_set w3 w.heap.size 2 (.slice (some ⟨g1, 0, none⟩) ss.length k1)); have VX := hide ((unhide HBB).below (bl_al (o := .cells #[] 4) (unhide BX))); clear n0 n1 BB C e0 e1 E1 B3 O3 HBB) | (refine wpList_append_bools _ rfl _ _ rfl w3.heap.size 0 (.slice (some ⟨w3.heap.size, 0, none⟩) 0 0) [] rfl (by have h := World.ownsRow_made (w3.setCell ⟨w.heap.size, 2, none⟩ (.slice (some ⟨g1, 0, none⟩) ss.length k1)) (e := 4) (size := 1) #[] 0 (Nat.le_refl _) (Nat.zero_le _) rfl; rw [unhide SX] at h; exact h) ⟨_, _, rfl⟩ (.slice A2 bs.length cb) bs rfl (unhide VX) (by have := unhide HN'; omega) (by simp [unhide SX]) ?_; intro g2 k2 w5 own2 gr2; have b5 := grown_made gr2 (unhide SX).symm; have n0 := (b5.block _ (Array.getElem?_eq_some_iff.1 (unhide N0)).1).trans (unhide N0); have n1 := (b5.block _ (Array.getElem?_eq_some_iff.1 (unhide N1)).1).trans (unhide N1); simp only [List.setIfInBounds_toArray, List.set_cons_zero, List.set_cons_succ] at n0; rw [Nat.zero_add, List.nil_append] at own2; have O5 := hide ((unhide OX).below b5); have P5 := hide (own_bools own2 ⟨_, _, rfl⟩); have B5 := hide (bl_st b5 (unhide BX)); have L5 : Hid (w3.heap.size ≤ w5.heap.size) := hide (by have := b5.size; have := unhide SX; omega); clear b5 own2 gr2 c0 c1 c2 c3 f2 N0 N1 OX BX VX; obtain ⟨_, c0, c1, c2, c3⟩ := bc_row n0; have f3 : w5.frozen? ⟨w.heap.size, 3, none⟩ = false := row_free n0; have p0 : w5.cell? ⟨w.heap.size + 1, 0, none⟩ = some (.int .i64 0) := row_cell n1; have p1 : w5.cell? ⟨w.heap.size + 1, 1, none⟩ = some (.int .i64 0) := row_cell n1; have p2 : w5.cell? ⟨w.heap.size + 1, 2, none⟩ = some (.slice none 0 0) := row_cell n1; have p3 : w5.cell? ⟨w.heap.size + 1, 3, none⟩ = some (.slice none 0 0) := row_cell n1; have y0 : w5.frozen? ⟨w.heap.size + 1, 0, none⟩ = false := row_free n1; have y1 : w5.frozen? ⟨w.heap.size + 1, 1, none⟩ = false := row_free n1; have y2 : w5.frozen? ⟨w.heap.size + 1, 2, none⟩ = false := row_free n1; have y3 : w5.frozen? ⟨w.heap.size + 1, 3, none⟩ = false := row_free n1; have N1 := hide (row_set_other (t' := w.heap.size) (i := 3) (v := .slice (some ⟨g2, 0, none⟩) bs.length k2) n1 (by omega)); clear n0 n1))
  have sl := unhide L3
  have sl5 := unhide L5
  refine bodyPost_ret (v := bloV p wd (.slice (some ⟨g1, 0, none⟩) ss.length k1) (.slice (some ⟨g2, 0, none⟩) bs.length k2)) ?_ rfl ⟨_, rfl, ⟨_, _, rfl, ?_, ?_, ?_⟩, ?_⟩
  · exact results_cell_row rfl _ _ (w.heap.size + 1) 26 _ (0, 0) _ rfl (row_put4 (unhide N1) p wd (.slice (some ⟨g1, 0, none⟩) ss.length k1) (.slice (some ⟨g2, 0, none⟩) bs.length k2)) Try.underlying26 rfl (by kernel_rfl)
  · refine (((unhide O5).lone (lone_setCell w.heap.size 3 _ _) (by omega)).lone (lone_put4 _ (w.heap.size + 1) p wd _ _) (by omega)).wide (by omega) ?_
    rw [size_put4, size_set]; omega
  · refine (((unhide P5).lone (lone_setCell w.heap.size 3 _ _) (by omega)).lone (lone_put4 _ (w.heap.size + 1) p wd _ _) (by omega)).wide (by omega) ?_
    rw [size_put4, size_set]; exact Nat.le_refl _
  · exact apart (unhide O5) (unhide P5)
  · exact bl_put4 (bl_set (unhide B5) (Nat.le_refl _)) (by omega)
end Go.Proofs.Ythckgccfjpgbaaa
