/- What a round is told, copied. -/
import Derived.Test.YtkefbmcipdiieaaRsp
namespace Go.Proofs.Ytkefbmcipdiieaa
open Go.RowKit
set_option maxHeartbeats 4000000
set_option maxRecDepth 20000
/-- what came in, the answer's block, the copy under way -/
structure T3 (w : World) (C Z L : Array Value) (W : World) : Prop where
  bx : W.heap[w.heap.size]? = some (.cells C 25 (0, 0))
  rs : W.heap[w.heap.size + 1]? = some (.cells Z 28 (0, 0))
  lc : W.heap[w.heap.size + 1 + 1]? = some (.cells L 28 (0, 0))
  be : Below w.heap.size w W
theorem T3.sz {w W : World} {C Z L : Array Value} (h : T3 w C Z L W) : w.heap.size + 1 + 1 < W.heap.size := (Array.getElem?_eq_some_iff.1 h.lc).1
theorem T3.below {w W W' : World} {C Z L : Array Value} (h : T3 w C Z L W) (hb : Below W.heap.size W W') : T3 w C Z L W' :=
  ⟨(hb.block _ (Array.getElem?_eq_some_iff.1 h.bx).1).trans h.bx, (hb.block _ (Array.getElem?_eq_some_iff.1 h.rs).1).trans h.rs, (hb.block _ (Array.getElem?_eq_some_iff.1 h.lc).1).trans h.lc, bl_st hb h.be⟩
theorem T3.set {w W : World} {C Z L : Array Value} (h : T3 w C Z L W) (k : Nat) (v : Value) : T3 w C Z (L.setIfInBounds k v) (W.setCell ⟨w.heap.size + 1 + 1, k, none⟩ v) :=
  ⟨row_set_other h.bx (by omega), row_set_other h.rs (by omega), row_set h.lc, bl_set h.be (by omega)⟩
theorem T3.put {w W : World} {C Z L : Array Value} (h : T3 w C Z L W) (k : Nat) (v : Value) : T3 w C (Z.setIfInBounds k v) L (W.setCell ⟨w.heap.size + 1, k, none⟩ v) :=
  ⟨row_set_other h.bx (by omega), row_set h.rs, row_set_other h.lc (by omega), bl_set h.be (by omega)⟩
theorem T3.new (w : World) (C Z L : Array Value) : T3 w C Z L (((w.alloc (.cells C 25 (0, 0))).alloc (.cells Z 28 (0, 0))).alloc (.cells L 28 (0, 0))) := by
  refine ⟨?_, ?_, ?_, bl_al (bl_al (bl_al (Below.refl _ _)))⟩
  · rw [Below.heap_alloc _ _ _ (by simp; omega), Below.heap_alloc _ _ _ (by simp)]
    exact heap_at _ _ _ rfl
  · rw [Below.heap_alloc _ _ _ (by simp)]
    exact heap_at _ _ _ (by simp)
  · exact heap_at _ _ _ (by simp)
/-- an int list that lies apart from the two blocks, behind a store into one of them -/
theorem ints_apart {W : World} {q k : Nat} {u v : Value} {xs : List Int} (h : intsV W v xs) (hq : v.ownBlock ≠ some q) : intsV (W.setCell ⟨q, k, none⟩ u) v xs := by
  obtain ⟨A, cap, rfl, hc⟩ := h
  refine ⟨A, cap, rfl, fun hn => ?_⟩
  obtain ⟨b, off, rfl, hl, hc⟩ := hc hn
  have hne : b ≠ q := fun e => hq (by rw [e]; rfl)
  refine ⟨b, off, rfl, by rw [size_set]; exact hl, fun i hi => ?_⟩
  rw [← hc i hi]
  unfold World.cell?
  rw [show (⟨b, off + i, none⟩ : Addr).block = b from rfl]
  simp only [World.setCell]
  rw [Array.getElem?_modify, if_neg (by omega)]
theorem strs_apart {W : World} {q k : Nat} {u v : Value} {xs : List ByteArray} (h : strsV W v xs) (hq : v.ownBlock ≠ some q) : strsV (W.setCell ⟨q, k, none⟩ u) v xs := by
  obtain ⟨A, cap, rfl, hc⟩ := h
  refine ⟨A, cap, rfl, fun hn => ?_⟩
  obtain ⟨b, off, rfl, hl, hc⟩ := hc hn
  have hne : b ≠ q := fun e => hq (by rw [e]; rfl)
  refine ⟨b, off, rfl, by rw [size_set]; exact hl, fun i hi => ?_⟩
  rw [← hc i hi]
  unfold World.cell?
  rw [show (⟨b, off + i, none⟩ : Addr).block = b from rfl]
  simp only [World.setCell]
  rw [Array.getElem?_modify, if_neg (by omega)]
theorem ints_row {W : World} {q : Nat} {cs : Array Value} {v : Value} {xs : List Int} (h : intsV W v xs) (hq : v.ownBlock ≠ some q) : intsV (W.setRow q cs) v xs := by
  obtain ⟨A, cap, rfl, hc⟩ := h
  refine ⟨A, cap, rfl, fun hn => ?_⟩
  obtain ⟨b, off, rfl, hl, hc⟩ := hc hn
  have hne : b ≠ q := fun e => hq (by rw [e]; rfl)
  refine ⟨b, off, rfl, by simpa [World.setRow] using hl, fun i hi => ?_⟩
  rw [← hc i hi]
  unfold World.cell?
  rw [show (⟨b, off + i, none⟩ : Addr).block = b from rfl, get_setRow_other hne]
theorem strs_row {W : World} {q : Nat} {cs : Array Value} {v : Value} {xs : List ByteArray} (h : strsV W v xs) (hq : v.ownBlock ≠ some q) : strsV (W.setRow q cs) v xs := by
  obtain ⟨A, cap, rfl, hc⟩ := h
  refine ⟨A, cap, rfl, fun hn => ?_⟩
  obtain ⟨b, off, rfl, hl, hc⟩ := hc hn
  have hne : b ≠ q := fun e => hq (by rw [e]; rfl)
  refine ⟨b, off, rfl, by simpa [World.setRow] using hl, fun i hi => ?_⟩
  rw [← hc i hi]
  unfold World.cell?
  rw [show (⟨b, off + i, none⟩ : Addr).block = b from rfl, get_setRow_other hne]
theorem to6r (v : Value) (x : Rs) (w : World) (hv : rsV w v x) (h1 : x.p.length ≤ 1048576) (h2 : x.b.length ≤ 1048576) :
    Calls Try.prog 6 #[v] w fun e w' => ∃ r, e = .returned r ∧ rsV w' r x ∧ Below w.heap.size w w' := by
  obtain ⟨p, b, rfl, hp, hb⟩ := hv
  obtain ⟨s, rd, ly, xp, xb, m, a, d, c, t⟩ := x
  dsimp only at *
  have K1 := hide (fun W (h : intsV W p xp) => to6 p xp W h (by omega))
  have K2 := hide (fun W (h : strsV W b xb) => to30 b xb W h (by omega))
  have HP := hide hp
  have HS := hide hb
  obtain ⟨A1, d1, rfl⟩ := hp.slice
  obtain ⟨A2, d2, rfl⟩ := hb.slice
  have t3 := T3.new w #[.string s, .int .i64 rd, .int .i64 ly, .slice A1 xp.length d1, .slice A2 xb.length d2, .int .i64 m, .int .i64 a, .int .i64 d, .int .i64 c, .int .i64 t] #[.string ⟨#[]⟩, .int .i64 0, .int .i64 0, .slice none 0 0, .slice none 0 0, .int .i64 0, .int .i64 0, .int .i64 0, .int .i64 0, .int .i64 0] #[.string s, .int .i64 rd, .int .i64 ly, .slice none 0 0, .slice none 0 0, .int .i64 0, .int .i64 0, .int .i64 0, .int .i64 0, .int .i64 0]
  have T0 := hide t3
  clear hp hb h1 h2 t3
  go_enter Try.func6, Try.ntmps6
  go_wp2_with fail
  
  
  generalize ((w.alloc (.cells #[.string s, .int .i64 rd, .int .i64 ly, .slice A1 xp.length d1, .slice A2 xb.length d2, .int .i64 m, .int .i64 a, .int .i64 d, .int .i64 c, .int .i64 t] 25)).alloc (.cells #[.string ⟨#[]⟩, .int .i64 0, .int .i64 0, .slice none 0 0, .slice none 0 0, .int .i64 0, .int .i64 0, .int .i64 0, .int .i64 0, .int .i64 0] 28)).alloc (.cells #[.string s, .int .i64 rd, .int .i64 ly, .slice none 0 0, .slice none 0 0, .int .i64 0, .int .i64 0, .int .i64 0, .int .i64 0, .int .i64 0] 28) = v0 at *
  have Z0 := hide (unhide T0).sz
  refine (unhide K1 v0 ((unhide HP).below (unhide T0).be)).mono ?_
  rintro e w1 ⟨r1, rfl, o, b⟩
  have tq := (unhide T0).below b
  have I1 := hide o.ints
  have L1 := hide o.lies
  have Y1 := hide b.size
  obtain ⟨B1, g1, rfl⟩ := o.ints.slice
  have l3 : _ = some (α := Value) (.slice none 0 0) := row_cell (i := 3) tq.lc
  have fz3 := row_free (i := 3) tq.lc
  have e4 : _ = some (α := Value) (.slice A2 xb.length d2) := row_cell (i := 4) tq.bx
  have t2 : T3 w #[.string s, .int .i64 rd, .int .i64 ly, .slice A1 xp.length d1, .slice A2 xb.length d2, .int .i64 m, .int .i64 a, .int .i64 d, .int .i64 c, .int .i64 t] #[.string ⟨#[]⟩, .int .i64 0, .int .i64 0, .slice none 0 0, .slice none 0 0, .int .i64 0, .int .i64 0, .int .i64 0, .int .i64 0, .int .i64 0] #[.string s, .int .i64 rd, .int .i64 ly, .slice B1 xp.length g1, .slice none 0 0, .int .i64 0, .int .i64 0, .int .i64 0, .int .i64 0, .int .i64 0] _ := tq.set 3 (.slice B1 xp.length g1)
  have T1 := hide t2
  have I1 := hide (ints_apart (q := w.heap.size + 1 + 1) (k := 3) (u := .slice B1 xp.length g1) (unhide I1) (fun e => by have := unhide L1 _ e; have := unhide Z0; omega))
  have SS1 := hide (size_set w1 (w.heap.size + 1 + 1) 3 (.slice B1 xp.length g1))
  clear tq t2 o b T0 K1 HP
  go_wp2_with fail
  generalize w1.setCell ⟨w.heap.size + 1 + 1, 3, none⟩ (.slice B1 xp.length g1) = v1 at *
  refine (unhide K2 v1 ((unhide HS).below (unhide T1).be)).mono ?_
  rintro e w2 ⟨r2, rfl, o, b⟩
  have tq := (unhide T1).below b
  have I1 := hide ((unhide I1).below b)
  have I2 := hide o.strs
  have L2 := hide o.lies
  have Y2 := hide b.size
  obtain ⟨B2, g2, rfl⟩ := o.strs.slice
  have l4 : _ = some (α := Value) (.slice none 0 0) := row_cell (i := 4) tq.lc
  have fz4 := row_free (i := 4) tq.lc
  have T3x := hide tq
  clear tq o b T1 K2 HS e4 l3 fz3
  go_wp2_with (first
    | (with_reducible change wpList _ _ _ _ _ (World.setCell w2 ⟨w.heap.size + 1 + 1, 4, none⟩ (Value.slice B2 xb.length g2))
       have tn : T3 w #[.string s, .int .i64 rd, .int .i64 ly, .slice A1 xp.length d1, .slice A2 xb.length d2, .int .i64 m, .int .i64 a, .int .i64 d, .int .i64 c, .int .i64 t] #[.string ⟨#[]⟩, .int .i64 0, .int .i64 0, .slice none 0 0, .slice none 0 0, .int .i64 0, .int .i64 0, .int .i64 0, .int .i64 0, .int .i64 0] #[.string s, .int .i64 rd, .int .i64 ly, .slice B1 xp.length g1, .slice B2 xb.length g2, .int .i64 0, .int .i64 0, .int .i64 0, .int .i64 0, .int .i64 0] _ := (unhide T3x).set 4 (.slice B2 xb.length g2)
       have T4x := hide tn
       have I1 := hide (ints_apart (q := w.heap.size + 1 + 1) (k := 4) (u := .slice B2 xb.length g2) (unhide I1) (fun e => by have := unhide L1 _ e; have := unhide Z0; omega))
       have I2 := hide (strs_apart (q := w.heap.size + 1 + 1) (k := 4) (u := .slice B2 xb.length g2) (unhide I2) (fun e => by have := unhide L2 _ e; have := unhide Z0; have := unhide SS1; have := unhide Y1; omega))
       clear tn T3x l4 fz4 
       generalize World.setCell w2 ⟨w.heap.size + 1 + 1, 4, none⟩ (Value.slice B2 xb.length g2) = v4 at *
       have e5 : _ = some (α := Value) (.int .i64 m) := row_cell (i := 5) (unhide T4x).bx
       have l5 : _ = some (α := Value) (.int .i64 0) := row_cell (i := 5) (unhide T4x).lc
       have fz5 := row_free (i := 5) (unhide T4x).lc
       skip)
    | (with_reducible change wpList _ _ _ _ _ (World.setCell v4 ⟨w.heap.size + 1 + 1, 5, none⟩ (Value.int .i64 m))
       have tn : T3 w #[.string s, .int .i64 rd, .int .i64 ly, .slice A1 xp.length d1, .slice A2 xb.length d2, .int .i64 m, .int .i64 a, .int .i64 d, .int .i64 c, .int .i64 t] #[.string ⟨#[]⟩, .int .i64 0, .int .i64 0, .slice none 0 0, .slice none 0 0, .int .i64 0, .int .i64 0, .int .i64 0, .int .i64 0, .int .i64 0] #[.string s, .int .i64 rd, .int .i64 ly, .slice B1 xp.length g1, .slice B2 xb.length g2, .int .i64 m, .int .i64 0, .int .i64 0, .int .i64 0, .int .i64 0] _ := (unhide T4x).set 5 (.int .i64 m)
       have T5x := hide tn
       have I1 := hide (ints_apart (q := w.heap.size + 1 + 1) (k := 5) (u := .int .i64 m) (unhide I1) (fun e => by have := unhide L1 _ e; have := unhide Z0; omega))
       have I2 := hide (strs_apart (q := w.heap.size + 1 + 1) (k := 5) (u := .int .i64 m) (unhide I2) (fun e => by have := unhide L2 _ e; have := unhide Z0; have := unhide SS1; have := unhide Y1; omega))
       clear tn T4x l5 fz5 e5
       generalize World.setCell v4 ⟨w.heap.size + 1 + 1, 5, none⟩ (Value.int .i64 m) = v5 at *
       have e6 : _ = some (α := Value) (.int .i64 a) := row_cell (i := 6) (unhide T5x).bx
       have l6 : _ = some (α := Value) (.int .i64 0) := row_cell (i := 6) (unhide T5x).lc
       have fz6 := row_free (i := 6) (unhide T5x).lc
       skip)
    | (with_reducible change wpList _ _ _ _ _ (World.setCell v5 ⟨w.heap.size + 1 + 1, 6, none⟩ (Value.int .i64 a))
       have tn : T3 w #[.string s, .int .i64 rd, .int .i64 ly, .slice A1 xp.length d1, .slice A2 xb.length d2, .int .i64 m, .int .i64 a, .int .i64 d, .int .i64 c, .int .i64 t] #[.string ⟨#[]⟩, .int .i64 0, .int .i64 0, .slice none 0 0, .slice none 0 0, .int .i64 0, .int .i64 0, .int .i64 0, .int .i64 0, .int .i64 0] #[.string s, .int .i64 rd, .int .i64 ly, .slice B1 xp.length g1, .slice B2 xb.length g2, .int .i64 m, .int .i64 a, .int .i64 0, .int .i64 0, .int .i64 0] _ := (unhide T5x).set 6 (.int .i64 a)
       have T6x := hide tn
       have I1 := hide (ints_apart (q := w.heap.size + 1 + 1) (k := 6) (u := .int .i64 a) (unhide I1) (fun e => by have := unhide L1 _ e; have := unhide Z0; omega))
       have I2 := hide (strs_apart (q := w.heap.size + 1 + 1) (k := 6) (u := .int .i64 a) (unhide I2) (fun e => by have := unhide L2 _ e; have := unhide Z0; have := unhide SS1; have := unhide Y1; omega))
       clear tn T5x l6 fz6 e6
       generalize World.setCell v5 ⟨w.heap.size + 1 + 1, 6, none⟩ (Value.int .i64 a) = v6 at *
       have e7 : _ = some (α := Value) (.int .i64 d) := row_cell (i := 7) (unhide T6x).bx
       have l7 : _ = some (α := Value) (.int .i64 0) := row_cell (i := 7) (unhide T6x).lc
       have fz7 := row_free (i := 7) (unhide T6x).lc
       skip)
    | (with_reducible change wpList _ _ _ _ _ (World.setCell v6 ⟨w.heap.size + 1 + 1, 7, none⟩ (Value.int .i64 d))
       have tn : T3 w #[.string s, .int .i64 rd, .int .i64 ly, .slice A1 xp.length d1, .slice A2 xb.length d2, .int .i64 m, .int .i64 a, .int .i64 d, .int .i64 c, .int .i64 t] #[.string ⟨#[]⟩, .int .i64 0, .int .i64 0, .slice none 0 0, .slice none 0 0, .int .i64 0, .int .i64 0, .int .i64 0, .int .i64 0, .int .i64 0] #[.string s, .int .i64 rd, .int .i64 ly, .slice B1 xp.length g1, .slice B2 xb.length g2, .int .i64 m, .int .i64 a, .int .i64 d, .int .i64 0, .int .i64 0] _ := (unhide T6x).set 7 (.int .i64 d)
       have T7x := hide tn
       have I1 := hide (ints_apart (q := w.heap.size + 1 + 1) (k := 7) (u := .int .i64 d) (unhide I1) (fun e => by have := unhide L1 _ e; have := unhide Z0; omega))
       have I2 := hide (strs_apart (q := w.heap.size + 1 + 1) (k := 7) (u := .int .i64 d) (unhide I2) (fun e => by have := unhide L2 _ e; have := unhide Z0; have := unhide SS1; have := unhide Y1; omega))
       clear tn T6x l7 fz7 e7
       generalize World.setCell v6 ⟨w.heap.size + 1 + 1, 7, none⟩ (Value.int .i64 d) = v7 at *
       have e8 : _ = some (α := Value) (.int .i64 c) := row_cell (i := 8) (unhide T7x).bx
       have l8 : _ = some (α := Value) (.int .i64 0) := row_cell (i := 8) (unhide T7x).lc
       have fz8 := row_free (i := 8) (unhide T7x).lc
       skip)
    | (with_reducible change wpList _ _ _ _ _ (World.setCell v7 ⟨w.heap.size + 1 + 1, 8, none⟩ (Value.int .i64 c))
       have tn : T3 w #[.string s, .int .i64 rd, .int .i64 ly, .slice A1 xp.length d1, .slice A2 xb.length d2, .int .i64 m, .int .i64 a, .int .i64 d, .int .i64 c, .int .i64 t] #[.string ⟨#[]⟩, .int .i64 0, .int .i64 0, .slice none 0 0, .slice none 0 0, .int .i64 0, .int .i64 0, .int .i64 0, .int .i64 0, .int .i64 0] #[.string s, .int .i64 rd, .int .i64 ly, .slice B1 xp.length g1, .slice B2 xb.length g2, .int .i64 m, .int .i64 a, .int .i64 d, .int .i64 c, .int .i64 0] _ := (unhide T7x).set 8 (.int .i64 c)
       have T8x := hide tn
       have I1 := hide (ints_apart (q := w.heap.size + 1 + 1) (k := 8) (u := .int .i64 c) (unhide I1) (fun e => by have := unhide L1 _ e; have := unhide Z0; omega))
       have I2 := hide (strs_apart (q := w.heap.size + 1 + 1) (k := 8) (u := .int .i64 c) (unhide I2) (fun e => by have := unhide L2 _ e; have := unhide Z0; have := unhide SS1; have := unhide Y1; omega))
       clear tn T7x l8 fz8 e8
       generalize World.setCell v7 ⟨w.heap.size + 1 + 1, 8, none⟩ (Value.int .i64 c) = v8 at *
       have e9 : _ = some (α := Value) (.int .i64 t) := row_cell (i := 9) (unhide T8x).bx
       have l9 : _ = some (α := Value) (.int .i64 0) := row_cell (i := 9) (unhide T8x).lc
       have fz9 := row_free (i := 9) (unhide T8x).lc
       skip)
    | (with_reducible change wpList _ _ _ _ _ (World.setCell v8 ⟨w.heap.size + 1 + 1, 9, none⟩ (Value.int .i64 t))
       have tn : T3 w #[.string s, .int .i64 rd, .int .i64 ly, .slice A1 xp.length d1, .slice A2 xb.length d2, .int .i64 m, .int .i64 a, .int .i64 d, .int .i64 c, .int .i64 t] #[.string ⟨#[]⟩, .int .i64 0, .int .i64 0, .slice none 0 0, .slice none 0 0, .int .i64 0, .int .i64 0, .int .i64 0, .int .i64 0, .int .i64 0] #[.string s, .int .i64 rd, .int .i64 ly, .slice B1 xp.length g1, .slice B2 xb.length g2, .int .i64 m, .int .i64 a, .int .i64 d, .int .i64 c, .int .i64 t] _ := (unhide T8x).set 9 (.int .i64 t)
       have T9x := hide tn
       have I1 := hide (ints_apart (q := w.heap.size + 1 + 1) (k := 9) (u := .int .i64 t) (unhide I1) (fun e => by have := unhide L1 _ e; have := unhide Z0; omega))
       have I2 := hide (strs_apart (q := w.heap.size + 1 + 1) (k := 9) (u := .int .i64 t) (unhide I2) (fun e => by have := unhide L2 _ e; have := unhide Z0; have := unhide SS1; have := unhide Y1; omega))
       clear tn T8x l9 fz9 e9
       generalize World.setCell v8 ⟨w.heap.size + 1 + 1, 9, none⟩ (Value.int .i64 t) = v9 at *
       skip)
    | refine wpList_load_row rfl 28 _ rfl (w.heap.size + 1 + 1) rfl 28 #[.string s, .int .i64 rd, .int .i64 ly, .slice B1 xp.length g1, .slice B2 xb.length g2, .int .i64 m, .int .i64 a, .int .i64 d, .int .i64 c, .int .i64 t] (0, 0) _ (unhide T9x).lc Try.underlying28 rfl (by kernel_rfl) ?_
    | refine wpList_store_row rfl 28 _ _ rfl (w.heap.size + 1) #[.string s, .int .i64 rd, .int .i64 ly, .slice B1 xp.length g1, .slice B2 xb.length g2, .int .i64 m, .int .i64 a, .int .i64 d, .int .i64 c, .int .i64 t] rfl rfl 28 #[.string ⟨#[]⟩, .int .i64 0, .int .i64 0, .slice none 0 0, .slice none 0 0, .int .i64 0, .int .i64 0, .int .i64 0, .int .i64 0, .int .i64 0] (unhide T9x).rs (by kernel_rfl) rfl (by kernel_rfl) ?_)
  refine bodyPost_ret (v := rsA s rd ly (.slice B1 xp.length g1) (.slice B2 xb.length g2) m a d c t) ?_ rfl ⟨_, rfl, ⟨_, _, rfl, ?_, ?_⟩, ?_⟩
  · exact results_cell_row rfl _ _ (w.heap.size + 1) 28 _ (0, 0) _ rfl (get_setRow (unhide T9x).rs) Try.underlying28 rfl (by kernel_rfl)
  · exact ints_row (unhide I1) (fun e => by have := unhide L1 _ e; have := unhide Z0; omega)
  · exact strs_row (unhide I2) (fun e => by have := unhide L2 _ e; have := unhide Z0; have := unhide SS1; have := unhide Y1; omega)
  · exact below_setRow (unhide T9x).be (by omega)
end Go.Proofs.Ytkefbmcipdiieaa
