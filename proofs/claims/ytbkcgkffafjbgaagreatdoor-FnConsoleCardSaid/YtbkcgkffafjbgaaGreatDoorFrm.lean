/- Frames as values; what a peer sends, both sides. -/
import Derived.Test.YtbkcgkffafjbgaaGreatDoorGc
namespace Go.Proofs.YtbkcgkffafjbgaaGreatDoor
open Go.RowKit
set_option maxHeartbeats 4000000
set_option maxRecDepth 20000
theorem results_tmp_row {P : Program} {fn : Func} {p u : Tmp} {ty : TypeId} (h : fn.results = #[.cell p ty, .tmp u]) (tmps : Array Value) (w : World) (g : Nat) (t : TypeId) (cs : Array Value) (fr : Nat × Nat) (d : TypeDesc) (x : Value)
    (hp : tmps.getD p undef = .pointer (some ⟨g, 0, none⟩)) (hx : tmps.getD u undef = x) (hg : w.heap[g]? = some (.cells cs t fr))
    (hu : P.underlying ty = some d) (hd : (match d with | .struct _ | .array _ _ => true | _ => false) = true) (hi : (P.info? ty).map (·.size) = some cs.size) :
    (results fn tmps).run P w = .ok (.tuple #[.agg cs, x]) w := by
  rw [results_cell_tmp h, hp, hx]
  simp [asAddr, run_loadVar_row w g t ty cs fr d hg hu hd hi]
abbrev frA (s a : Int) (h : Bool) (b : ByteArray) : Value := .agg #[.int .i64 s, .int .i64 a, .bool h, .string b]
abbrev frV (f : Fr) : Value := frA f.s f.a f.h f.b
def fr0 : Fr := ⟨0, 0, false, noS⟩
structure FC (q : Nat) (s a : Int) (h : Bool) (b : ByteArray) (W : World) : Prop where
  lt : q < W.heap.size
  c0 : W.cell? ⟨q, 0, none⟩ = some (.int .i64 s)
  c1 : W.cell? ⟨q, 1, none⟩ = some (.int .i64 a)
  c2 : W.cell? ⟨q, 2, none⟩ = some (.bool h)
  c3 : W.cell? ⟨q, 3, none⟩ = some (.string b)
theorem fc_row {W : World} {q : Nat} {s a : Int} {h : Bool} {b : ByteArray} {ty : TypeId} (g : W.heap[q]? = some (.cells #[.int .i64 s, .int .i64 a, .bool h, .string b] ty (0, 0))) : FC q s a h b W :=
  ⟨(Array.getElem?_eq_some_iff.1 g).1, row_cell g, row_cell g, row_cell g, row_cell g⟩
theorem fc_new (w : World) (s a : Int) (h : Bool) (b : ByteArray) (ty : TypeId) : FC w.heap.size s a h b (w.alloc (.cells #[.int .i64 s, .int .i64 a, .bool h, .string b] ty)) :=
  fc_row (heap_alloc_new w _)
theorem FC.below {q : Nat} {s a : Int} {h : Bool} {b : ByteArray} {W W' : World} (g : FC q s a h b W) (hb : Below W.heap.size W W') : FC q s a h b W' :=
  ⟨Nat.lt_of_lt_of_le g.lt hb.size, (cell_below hb g.lt).trans g.c0, (cell_below hb g.lt).trans g.c1, (cell_below hb g.lt).trans g.c2, (cell_below hb g.lt).trans g.c3⟩
theorem FC.touchR {lo hi : Nat} {q : Nat} {s a : Int} {h : Bool} {b : ByteArray} {W W' : World} (g : FC q s a h b W) (ht : TouchR lo hi W W') (hd : q < lo ∨ hi ≤ q) : FC q s a h b W' := by
  have e : ∀ i, W'.cell? ⟨q, i, none⟩ = W.cell? ⟨q, i, none⟩ := fun i => by
    unfold World.cell?
    rw [show (⟨q, i, none⟩ : Addr).block = q from rfl, ht.block q g.lt hd]
  exact ⟨Nat.lt_of_lt_of_le g.lt ht.size, (e 0).trans g.c0, (e 1).trans g.c1, (e 2).trans g.c2, (e 3).trans g.c3⟩
theorem PC.touchR {lo hi : Nat} {b : Nat} {q i : Value} {s e : Int} {W W' : World} (g : PC b q s e i W) (ht : TouchR lo hi W W') (hd : b < lo ∨ hi ≤ b) : PC b q s e i W' := by
  have e : ∀ i, W'.cell? ⟨b, i, none⟩ = W.cell? ⟨b, i, none⟩ := fun i => by
    unfold World.cell?
    rw [show (⟨b, i, none⟩ : Addr).block = b from rfl, ht.block b g.lt hd]
  exact ⟨Nat.lt_of_lt_of_le g.lt ht.size, (e 0).trans g.c0, (e 1).trans g.c1, (e 2).trans g.c2, (e 3).trans g.c3⟩
/-- how the first of a queue is read -/
theorem strs_head {w : World} {A : Option Addr} {n cap : Nat} {t : ByteArray} {ts : List ByteArray} (_hn : n = (t :: ts).length) (h : strsV w (.slice A n cap) (t :: ts)) : ∃ b off, A = some ⟨b, off, none⟩ ∧ b < w.heap.size ∧ w.cell? ⟨b, off, none⟩ = some (.string t) := by
  obtain ⟨A', c', e, hc⟩ := h
  obtain ⟨rfl, _, _⟩ : A = A' ∧ _ ∧ _ := by simpa using e
  obtain ⟨b, off, rfl, hl, hc⟩ := hc (by simp)
  exact ⟨b, off, rfl, hl, by have := hc 0 (by simp); simpa using this⟩
theorem out61 (v : Value) (p : Pe) (w : World) (hv : peV w v p) (hf : peFew p) :
    Calls Tryz.prog 39 #[v] w fun e w' => e = .returned (frV (outF p)) ∧ Below w.heap.size w w' := by
  obtain ⟨q, i, rfl, hq, hi⟩ := hv
  obtain ⟨f1, f2⟩ := hf
  obtain ⟨xq, s, e, xi⟩ := p
  dsimp only at *
  obtain ⟨A, ca, rfl⟩ := hq.slice
  obtain ⟨A2, cb, rfl⟩ := hi.slice
  clear hi f2
  generalize xi.length = m at *
  cases xq with
  | nil =>
    show Calls Tryz.prog 39 #[peA (.slice A 0 ca) s e (.slice A2 m cb)] w fun e1 w' => e1 = .returned (frA s e false ⟨#[]⟩) ∧ Below w.heap.size w w'
    clear hq f1
    go_enter Tryz.func39, Tryz.ntmps39
    go_wp2
    refine bodyPost_ret (v := frA s e false ⟨#[]⟩) ?_ rfl ⟨rfl, bl_al (bl_al (bl_al (Below.refl _ _)))⟩
    refine results_cell_row rfl _ _ (w.heap.size + 1) 75 #[.int .i64 s, .int .i64 e, .bool false, .string ⟨#[]⟩] (0, 0) _ rfl ?_ Tryz.underlying75 rfl (by kernel_rfl)
    rw [Below.heap_alloc _ _ _ (by simp)]
    exact heap_at _ _ _ (by simp)
  | cons t ts =>
    show Calls Tryz.prog 39 #[peA (.slice A (t :: ts).length ca) s e (.slice A2 m cb)] w fun e1 w' => e1 = .returned (frA s e true t) ∧ Below w.heap.size w w'
    obtain ⟨b, off, rfl, hl, hc⟩ := strs_head rfl hq
    have n0 : (0 : Int) < ((t :: ts).length : Int) := by simp
    have n1 : ((t :: ts).length : Int) ≤ 1048576 := by omega
    clear hq f1
    generalize (t :: ts).length = n at *
    have n2 : ¬ ((n : Int) = 0) := by omega
    have hc3 : ∀ o1 o2 o3, (((w.alloc o1).alloc o2).alloc o3).cell? ⟨b, off, none⟩ = some (.string t) := fun o1 o2 o3 => (cell_below (bl_al (bl_al (bl_al (Below.refl _ _)))) hl).trans hc
    clear hc hl
    go_enter Tryz.func39, Tryz.ntmps39
    go_wp2
    refine bodyPost_ret (v := frA s e true t) ?_ rfl ⟨rfl, bl_al (bl_al (bl_al (Below.refl _ _)))⟩
    refine results_cell_row rfl _ _ (w.heap.size + 1) 75 #[.int .i64 s, .int .i64 e, .bool true, .string t] (0, 0) _ rfl ?_ Tryz.underlying75 rfl (by kernel_rfl)
    rw [Below.heap_alloc _ _ _ (by simp)]
    exact heap_at _ _ _ (by simp)
def outR (p : Pe) : Fr × Int := if peOK p = true then (outF p, 0) else (fr0, 1)
theorem out23 (v : Value) (p : Pe) (w : World) (hv : peV w v p) (hf : peFew p) :
    Calls Tryz.prog 95 #[v] w fun e w' => e = .returned (.tuple #[frV (outR p).1, .int .i64 (outR p).2]) ∧ Below w.heap.size w w' := by
  obtain ⟨q, i, rfl, hq, hi⟩ := hv
  have HP := hide (show peV w (peA q p.s p.e i) p from ⟨q, i, rfl, hq, hi⟩)
  have HF := hide hf
  obtain ⟨xq, s, e, xi⟩ := p
  dsimp only at *
  have B1 : Below w.heap.size w ((w.alloc (.cells #[q, .int .i64 s, .int .i64 e, i] 53)).alloc (.cells #[.int .i64 0, .int .i64 0, .bool false, .string ⟨#[]⟩] 75)) := bl_al (bl_al (Below.refl _ _))
  have n1 : ((w.alloc (.cells #[q, .int .i64 s, .int .i64 e, i] 53)).alloc (.cells #[.int .i64 0, .int .i64 0, .bool false, .string ⟨#[]⟩] 75)).heap[w.heap.size + 1]? = some (.cells #[.int .i64 0, .int .i64 0, .bool false, .string ⟨#[]⟩] 75 (0, 0)) := heap_at _ _ _ (by simp)
  have C1 := (pc_new w q s e i 53).below (bl_al (o := .cells #[.int .i64 0, .int .i64 0, .bool false, .string ⟨#[]⟩] 75) (Below.refl _ _))
  have K1 := hide (ok16 _ _ _ ((unhide HP).below B1) hf)
  have HN := hide n1
  have HC := hide C1
  have HB := hide B1
  have HQ := hide hq
  obtain ⟨A, ca, rfl⟩ := hq.slice
  obtain ⟨A2, cb, rfl⟩ := hi.slice
  obtain ⟨_, c0, c1, c2, c3⟩ := C1
  clear hi n1 B1
  obtain ⟨hf1, _⟩ := hf
  dsimp only at hf1
  have n0 : (0 : Int) ≤ (xq.length : Int) := by omega
  have n9 : (xq.length : Int) ≤ 1048576 := by omega
  clear hf1
  go_enter Tryz.func95, Tryz.ntmps95
  go_wp2_with fail
  generalize (w.alloc (.cells #[.slice A xq.length ca, .int .i64 s, .int .i64 e, .slice A2 xi.length cb] 53)).alloc (.cells #[.int .i64 0, .int .i64 0, .bool false, .string ⟨#[]⟩] 75) = w1 at *
  refine (unhide K1).mono ?_
  rintro e1 w2 ⟨rfl, b2⟩
  clear K1
  have HN := hide ((b2.block _ (Array.getElem?_eq_some_iff.1 (unhide HN)).1).trans (unhide HN))
  have HC := hide ((unhide HC).below b2)
  have HB := hide (bl_st b2 (unhide HB))
  have Y2 := hide b2.size
  clear c0 c1 c2 c3
  obtain ⟨_, c0, c1, c2, c3⟩ := unhide HC
  clear b2
  by_cases hok : peOK ⟨xq, s, e, xi⟩ = true
  · have HR := hide (show outR ⟨xq, s, e, xi⟩ = (outF ⟨xq, s, e, xi⟩, 0) from if_pos hok)
    have H40 : Hid (∀ t ∈ xq, t.size ≤ 40) := hide fun t ht => by
      rw [ok_parts] at hok
      simp only [Bool.and_eq_true, List.all_eq_true] at hok
      exact of_decide_eq_true (hok.1.1.1.2 t ht)
    rw [hok]
    clear hok
    have BA : Below w2.heap.size w2 (w2.alloc (.cells #[.int .i64 s, .int .i64 e, .bool false, .string ⟨#[]⟩] 75)) := bl_al (Below.refl _ _)
    have N3 := hide ((BA.block _ (Array.getElem?_eq_some_iff.1 (unhide HN)).1).trans (unhide HN))
    have C3 := hide ((unhide HC).below BA)
    have B3 := hide (bl_st BA (unhide HB))
    have M3 := hide (heap_alloc_new w2 (.cells #[.int .i64 s, .int .i64 e, .bool false, .string ⟨#[]⟩] 75))
    have L3 := hide (Array.getElem?_eq_some_iff.1 (unhide HN)).1
    obtain ⟨_, d0, d1, d2, d3⟩ := unhide C3
    clear BA
    cases xq with
    | nil =>
      clear H40 hq HQ
      have hl0 : (([] : List ByteArray).length : Int) = 0 := rfl
      simp only [List.length_nil] at *
      go_wp2_with (first
        | refine wpList_load_row rfl 75 _ rfl w2.heap.size rfl 75 #[.int .i64 s, .int .i64 e, .bool false, .string ⟨#[]⟩] (0, 0) _ (unhide M3) Tryz.underlying75 rfl (by kernel_rfl) ?_
        | refine wpList_store_row rfl 75 _ _ rfl (w.heap.size + 1) #[.int .i64 s, .int .i64 e, .bool false, .string ⟨#[]⟩] rfl rfl 75 #[.int .i64 0, .int .i64 0, .bool false, .string ⟨#[]⟩] (unhide N3) (by kernel_rfl) rfl (by kernel_rfl) ?_)
      refine bodyPost_ret (v := .tuple #[frA s e false ⟨#[]⟩, .int .i64 0]) ?_ rfl ⟨?_, below_setRow (unhide B3) (by omega)⟩
      · exact results_tmp_row rfl _ _ (w.heap.size + 1) 75 _ (0, 0) _ _ rfl rfl (get_setRow (unhide N3)) Tryz.underlying75 rfl (by kernel_rfl)
      · rw [unhide HR]; rfl
    | cons t ts =>
      obtain ⟨b, off, rfl, hl, hc⟩ := strs_head rfl (unhide HQ)
      have hc3 := (cell_below (unhide B3) hl).trans hc
      have K := hide (fun W => clone55 t W (by have := unhide H40 t (by simp); omega))
      have p0 : (0 : Int) < ((t :: ts).length : Int) := by simp
      have HR2 : Hid (outF ⟨t :: ts, s, e, xi⟩ = ⟨s, e, true, t⟩) := hide rfl
      clear hc hl H40 hq HQ
      generalize (t :: ts).length = n at *
      have n2 : ¬ ((n : Int) = 0) := by omega
      go_wp2_with fail
      generalize hw3 : w2.alloc (.cells #[.int .i64 s, .int .i64 e, .bool false, .string ⟨#[]⟩] 75) = w3 at *
      refine (unhide K w3).mono ?_
      rintro e1 w4 ⟨rfl, b4⟩
      have N4 := hide ((b4.block _ (Array.getElem?_eq_some_iff.1 (unhide N3)).1).trans (unhide N3))
      have m4 := (b4.block _ (Array.getElem?_eq_some_iff.1 (unhide M3)).1).trans (unhide M3)
      have B4 := hide (bl_st b4 (unhide B3))
      obtain ⟨_, g0, g1, g2, g3⟩ := fc_row m4
      have z2 := row_free (i := 2) m4
      have z3 := row_free (i := 3) m4
      have l3 := unhide L3
      have mm := row_set (i := 3) (v := .string t) (row_set (i := 2) (v := .bool true) m4)
      simp only [List.setIfInBounds_toArray, List.set_cons_zero, List.set_cons_succ] at mm
      have M5 := hide mm
      have N5 := hide (row_set_other (i := 3) (v := .string t) (row_set_other (i := 2) (v := .bool true) (unhide N4) (show w2.heap.size ≠ w.heap.size + 1 by omega)) (show w2.heap.size ≠ w.heap.size + 1 by omega))
      have B5 := hide (bl_set (i := 3) (v := .string t) (bl_set (i := 2) (v := .bool true) (unhide B4) (show w.heap.size ≤ w2.heap.size by omega)) (show w.heap.size ≤ w2.heap.size by omega))
      clear m4 mm b4 hw3 c0 c1 c2 c3 d0 d1 d2 d3 hc3 K HN HC HB N3 C3 B3 M3 N4 B4
      go_wp2_with (first
        | refine wpList_load_row rfl 75 _ rfl w2.heap.size rfl 75 #[.int .i64 s, .int .i64 e, .bool true, .string t] (0, 0) _ (unhide M5) Tryz.underlying75 rfl (by kernel_rfl) ?_
        | refine wpList_store_row rfl 75 _ _ rfl (w.heap.size + 1) #[.int .i64 s, .int .i64 e, .bool true, .string t] rfl rfl 75 #[.int .i64 0, .int .i64 0, .bool false, .string ⟨#[]⟩] (unhide N5) (by kernel_rfl) rfl (by kernel_rfl) ?_)
      refine bodyPost_ret (v := .tuple #[frA s e true t, .int .i64 0]) ?_ rfl ⟨?_, below_setRow (unhide B5) (by omega)⟩
      · exact results_tmp_row rfl _ _ (w.heap.size + 1) 75 _ (0, 0) _ _ rfl rfl (get_setRow (unhide N5)) Tryz.underlying75 rfl (by kernel_rfl)
      · rw [unhide HR, unhide HR2]
  · have HR := hide (show outR ⟨xq, s, e, xi⟩ = (fr0, 1) from if_neg hok)
    have hok2 : peOK ⟨xq, s, e, xi⟩ = false := by simpa using hok
    rw [hok2]
    clear hok hok2
    go_wp2_with (refine wpList_store_row rfl 75 _ _ rfl (w.heap.size + 1) #[.int .i64 0, .int .i64 0, .bool false, .string ⟨#[]⟩] rfl rfl 75 #[.int .i64 0, .int .i64 0, .bool false, .string ⟨#[]⟩] (unhide HN) (by kernel_rfl) rfl (by kernel_rfl) ?_)
    refine bodyPost_ret (v := .tuple #[frA 0 0 false ⟨#[]⟩, .int .i64 1]) ?_ rfl ⟨?_, below_setRow (unhide HB) (by omega)⟩
    · exact results_tmp_row rfl _ _ (w.heap.size + 1) 75 _ (0, 0) _ _ rfl rfl (get_setRow (unhide HN)) Tryz.underlying75 rfl (by kernel_rfl)
    · rw [unhide HR]; rfl
end Go.Proofs.YtbkcgkffafjbgaaGreatDoor
