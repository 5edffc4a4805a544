/- The program's block of ChaCha20. -/
import Derived.Test.YtggiijlgdpkkfaaDoorTab
import Derived.Test.YtggiijlgdpkkfaaDoorRow
import Derived.Test.YtggiijlgdpkkfaaDoorOut
namespace Go.Proofs.YtggiijlgdpkkfaaDoor
open Go.RowKit
set_option maxHeartbeats 4000000
set_option maxRecDepth 20000
attribute [local go_sem] w_add' w_xor w_or w_and
theorem words16 (S : List W32) (h : S.length = 16) : ∃ s0 s1 s2 s3 s4 s5 s6 s7 s8 s9 s10 s11 s12 s13 s14 s15, S = [s0, s1, s2, s3, s4, s5, s6, s7, s8, s9, s10, s11, s12, s13, s14, s15] := by
  match S, h with
  | [s0, s1, s2, s3, s4, s5, s6, s7, s8, s9, s10, s11, s12, s13, s14, s15], _ => exact ⟨_, _, _, _, _, _, _, _, _, _, _, _, _, _, _, _, rfl⟩
def wObj (T : List W32) : Obj := .cells (T.map wV ++ []).toArray 53 (0, 0)
def zero64 : Obj := .cells (Array.replicate 64 (.int .u8 0)) 62 (0, 0)
structure St (w : World) (b : Nat) (T Y : List W32) (W : World) : Prop where
  s : W.heap[b]? = some (wObj T)
  r : W.heap[b + 1]? = some zero64
  m : W.heap[b + 1 + 1]? = some (wObj Y)
  below : Below b w W
theorem St.lt {w W : World} {b : Nat} {T Y : List W32} (h : St w b T Y W) : b + 1 + 1 < W.heap.size := (Array.getElem?_eq_some_iff.1 h.m).1
theorem St.row {w W : World} {b : Nat} {T Y : List W32} (h : St w b T Y W) : rowW W (b + 1 + 1) 53 Y [] = W := rowW_same W (b + 1 + 1) 53 Y [] h.m
theorem St.alloc {w W : World} {b : Nat} {T Y : List W32} (h : St w b T Y W) (o : Obj) : St w b T Y (W.alloc o) :=
  ⟨by rw [Below.heap_alloc _ _ _ (by have := h.lt; omega)]; exact h.s, by rw [Below.heap_alloc _ _ _ (by have := h.lt; omega)]; exact h.r, by rw [Below.heap_alloc _ _ _ h.lt]; exact h.m, h.below.alloc (by have := h.lt; omega) o⟩
theorem St.put {w W : World} {b : Nat} {T Y : List W32} (h : St w b T Y W) (Z : List W32) (n : Nat) : St w b T Z (rowW (W.drewN n) (b + 1 + 1) 53 Z []) :=
  ⟨by rw [get_rowW_other _ _ _ _ _ _ (by omega)]; exact h.s, by rw [get_rowW_other _ _ _ _ _ _ (by omega)]; exact h.r, get_rowW _ _ _ _ _ h.lt, below_rowW _ _ _ _ _ (below_drewN h.below n) (by omega)⟩
theorem m_facts (w : World) (g : Nat) (ys : List W32) (hg : g < w.heap.size) (hL : ys.length = 16) (i : Nat) (hi : i < 16) :
    (∀ n, (rowW (w.drewN n) g 53 ys []).cell? ⟨g, i, none⟩ = some (.int .u32 (wi (gW ys i)))) :=
  fun n => cell_rowW _ _ _ _ _ _ (by omega) hg
theorem s_facts (w : World) (g : Nat) (hg : g < w.heap.size) (i : Nat) (hi : i < 16) (x : W32) (ys : List W32) (hL : ys.length = 16) :
    (∀ n, (rowW (w.drewN n) g 53 ys []).frozen? ⟨g, i, none⟩ = false) ∧ (∀ n, (rowW (w.drewN n) g 53 ys []).setCell ⟨g, i, none⟩ (.int .u32 (wi x)) = rowW (w.drewN n) g 53 (ys.set i x) []) :=
  ⟨fun n => frozen_rowW _ _ _ _ _ _ hg, fun n => set_rowW _ _ _ _ _ _ _ (by omega) hg⟩
theorem heap_at (W : World) (o : Obj) (n : Nat) (h : n = W.heap.size) : (W.alloc o).heap[n]? = some o := by subst h; exact heap_alloc_new W o
theorem st_made (w : World) (A B C : Obj) (T : List W32) (hA : A = wObj T) (hB : B = zero64) (hC : C = wObj T) : St w w.heap.size T T (((w.alloc A).alloc B).alloc C) := by
  refine ⟨?_, ?_, ?_, (((Below.refl _ _).alloc (Nat.le_refl _) _).alloc (by simp) _).alloc (by simp; omega) _⟩
  · rw [Below.heap_alloc _ _ _ (by simp; omega), Below.heap_alloc _ _ _ (by simp), heap_at _ _ _ rfl, hA]
  · rw [Below.heap_alloc _ _ _ (by simp), heap_at _ _ _ (by simp), hB]
  · rw [heap_at _ _ _ (by simp), hC]
theorem cells4 (W : World) (p q r s : Value) : (W.alloc (.cells #[p, q, r, s] 68)).cell? ⟨W.heap.size, 0, none⟩ = some p ∧ (W.alloc (.cells #[p, q, r, s] 68)).cell? ⟨W.heap.size, 1, none⟩ = some q ∧ (W.alloc (.cells #[p, q, r, s] 68)).cell? ⟨W.heap.size, 2, none⟩ = some r ∧ (W.alloc (.cells #[p, q, r, s] 68)).cell? ⟨W.heap.size, 3, none⟩ = some s := by
  refine ⟨?_, ?_, ?_, ?_⟩ <;> rw [Go.cell_of_row _ _ _ _ _ _ (heap_alloc_new W _)] <;> rfl
theorem cs_facts (w : World) (g : Nat) (hg : g < w.heap.size) (i : Nat) (hi : i < 16) (ys : List W32) (hL : ys.length = 16) :
    ∀ n, (rowW (w.drewN n) g 53 ys []).cell? ⟨g, i, none⟩ = some (.int .u32 (wi (gW ys i))) := fun n => cell_rowW _ _ _ _ _ _ (by omega) hg
structure Ot (w : World) (b : Nat) (T F : List W32) (X : World) (go j : Nat) (W : World) : Prop where
  s : W.heap[b]? = some (wObj T)
  r : W.heap[b + 1]? = some zero64
  m : W.heap[b + 1 + 1]? = some (wObj F)
  o : W.heap[go]? = some (rowObj 62 .u8 (outZ F T j) [])
  below : Below b w W
  gt : b + 1 + 1 < go
theorem ot_made {w W : World} {b : Nat} {T F : List W32} (h : St w b T F W) (o : Obj) (ho : o = zero64) : Ot w b T F (W.alloc o) W.heap.size 0 (W.alloc o) :=
  ⟨(h.alloc o).s, (h.alloc o).r, (h.alloc o).m, by rw [heap_at _ _ _ rfl, ho]; rfl, (h.alloc o).below, h.lt⟩
theorem Ot.lt {w W X : World} {b go j : Nat} {T F : List W32} (h : Ot w b T F X go j W) : go < W.heap.size := (Array.getElem?_eq_some_iff.1 h.o).1
theorem Ot.put {w W X : World} {b go j : Nat} {T F : List W32} (h : Ot w b T F X go j W) (n i : Nat) : Ot w b T F X go i (rowL (W.drewN n) go 62 .u8 (outZ F T i) []) :=
  ⟨by rw [get_row_other _ _ _ _ _ _ _ (by have := h.gt; omega)]; exact h.s, by rw [get_row_other _ _ _ _ _ _ _ (by have := h.gt; omega)]; exact h.r, by rw [get_row_other _ _ _ _ _ _ _ (by have := h.gt; omega)]; exact h.m,
   get_row _ _ _ _ _ _ h.lt, below_row _ _ _ _ _ _ (below_drewN h.below n) (by have := h.gt; omega), h.gt⟩
theorem byte_at (F T : List W32) (m e j : Nat) (hm : m < 16) (he : e < 4) (hj : j = 4 * m + e) (v : Int) (hv : v = (leB (gW F m + gW T m)).getD e 0) : v = (outN F T 16).getD j 0 := by
  rw [hv, hj, outN_at F T 16 m e hm he]
theorem row_cellE {w : World} {b : Nat} {xs : List W32} (h : w.heap[b]? = some (wObj xs)) (i : Nat) (hi : i < xs.length) : w.cell? ⟨b, i, none⟩ = some (.int .u32 (wi (gW xs i))) := by
  rw [← rowW_same w b 53 xs [] h]
  exact cell_rowW _ _ _ _ _ _ hi (Array.getElem?_eq_some_iff.1 h).1
theorem info49 : (Tryd.prog.info? 62).map (fun i => (i.zero, i.size)) = some (some (.agg (Array.replicate 64 (.int .u8 0))), 64) := by kernel_rfl
theorem get_setRow {W : World} {g : Nat} {cs old : Array Value} {t : TypeId} {fr : Nat × Nat} (h : W.heap[g]? = some (.cells old t fr)) : (W.setRow g cs).heap[g]? = some (.cells cs t fr) := by
  simp [World.setRow, Array.getElem?_modify, h]
theorem below_setRow {B g : Nat} {a W : World} {cs : Array Value} (h : Below B a W) (hg : B ≤ g) : Below B a (W.setRow g cs) :=
  ⟨h.os, h.tape, h.output, by simpa [World.setRow] using h.size, fun k hk => by
    rw [← h.block k hk]; simp only [World.setRow]; rw [Array.getElem?_modify, if_neg (by omega)]⟩
theorem blk28 (S : List W32) (hS : S.length = 16) (c : W32) (w : World) (t : TypeId) (fr : Nat × Nat) (hq : w.heap[0]? = some (.cells qArr t fr)) :
    Calls Tryd.prog 37 #[.agg (S.map wV).toArray, wV c] w fun e w' => e = .returned (.agg ((outN (rndC (S.set 12 c) 10) (S.set 12 c) 16).map (Value.int .u8)).toArray) ∧ Below w.heap.size w w' := by
  have h0 : 0 < w.heap.size := (Array.getElem?_eq_some_iff.1 hq).1
  have HQ := hide hq
  have H0 := hide h0
  obtain ⟨s0, s1, s2, s3, s4, s5, s6, s7, s8, s9, s10, s11, s12, s13, s14, s15, rfl⟩ := words16 S hS
  clear hq hS h0
  obtain ⟨T, hT⟩ : ∃ T, T = [s0, s1, s2, s3, s4, s5, s6, s7, s8, s9, s10, s11, c, s13, s14, s15] := ⟨_, rfl⟩
  rw [show [s0, s1, s2, s3, s4, s5, s6, s7, s8, s9, s10, s11, s12, s13, s14, s15].set 12 c = T from hT.symm]
  have HT := hide hT
  have HTl : Hid (T.length = 16) := by rw [hT]; rfl
  clear hT
  go_enter Tryd.func37, Tryd.ntmps37
  go_wp2_with (first
    | refine wpList_load_row rfl 53 _ rfl w.heap.size rfl 53 _ (0, 0) _ ((Below.heap_alloc _ _ _ (by simp)).trans (heap_at _ _ _ rfl)) Tryd.underlying53 rfl (by kernel_rfl) ?_
    | refine wpList_store_row rfl 53 _ _ rfl (w.heap.size + 1 + 1) _ rfl rfl 53 _ (heap_at _ _ _ (by simp)) (by kernel_rfl) rfl rfl ?_)
  generalize hW : ((w.alloc _).alloc _).alloc _ = W
  have ST : Hid (St w w.heap.size T T W) := by
    rw [← hW]
    exact st_made w _ _ _ T (by rw [unhide HT]; rfl) (by kernel_rfl) (by rw [unhide HT]; rfl)
  clear hW HT
  go_loopw [18] (fun i wr => ∃ r : Nat, r ≤ 10 ∧ i = .int .i64 r ∧ St w w.heap.size T (rndC T r) wr) (fun i _ => 10 - (intOf i).toNat)
  case atStart => exact ⟨0, by omega, rfl, unhide ST⟩
  case round =>
    clear ST
    obtain ⟨r, hr, rfl, st⟩ := hrel
    by_cases hlt : r < 10
    · have qr : (r : Int) < 10 := by omega
      have HYl := hide ((rndC_len T r).trans (unhide HTl))
      have hY : Hid (rndC T (r + 1) = diaQ (colQ (rndC T r) 4) 4) := rfl
      generalize rndC T r = Y at *
      have lq := hide ((st.below.block 0 (unhide H0)).trans (unhide HQ))
      have ST := hide st
      clear st
      go_wp2_with (refine wpList_load_row rfl 69 _ rfl 0 rfl t _ fr _ (unhide lq) Tryd.underlying69 rfl (by kernel_rfl) ?_)
      go_loopw [21] (fun i wr => ∃ k : Nat, k ≤ 8 ∧ i = .int .i64 k ∧ St w w.heap.size T (rnd8 Y k) wr) (fun i _ => 8 - (intOf i).toNat)
      case atStart => exact ⟨0, by omega, rfl, unhide ST⟩
      case round =>
        clear ST lq
        obtain ⟨k, hk, rfl, st⟩ := hrel
        by_cases hlt8 : k < 8
        · have qk : (k : Int) < 8 := by omega
          have HE : Hid (rnd8 Y (k + 1) = qL (rnd8 Y k) (qA k) (qB k) (qC k) (qD k)) := rfl
          have HL := hide ((rnd8_len Y k).trans (unhide HYl))
          have ix := index_q k hlt8
          have qf := hide (q_facts k hlt8)
          generalize rnd8 Y k = ys at *
          generalize qA k = a at *
          generalize qB k = b at *
          generalize qC k = c1 at *
          generalize qD k = d at *
          have ST := hide st
          clear st
          go_wp2
          have st2 := (unhide ST).alloc (.cells #[.int .i64 a, .int .i64 b, .int .i64 c1, .int .i64 d] 68)
          have hn : Hid (wr.heap.size ≠ w.heap.size + 1 + 1) := by have := (unhide ST).lt; show wr.heap.size ≠ w.heap.size + 1 + 1; omega
          have hc := hide (cells4 wr (.int .i64 a) (.int .i64 b) (.int .i64 c1) (.int .i64 d))
          generalize wr.alloc (.cells #[.int .i64 a, .int .i64 b, .int .i64 c1, .int .i64 d] 68) = Z at *
          generalize wr.heap.size = gq at *
          have hrow : Z = rowW (Z.drewN 0) (w.heap.size + 1 + 1) 53 ys [] := st2.row.symm
          have hlt2 := hide st2.lt
          have ST2 := hide st2
          rw [hrow]
          clear hrow st2 ST
          obtain ⟨gm, hgm⟩ : ∃ gm, gm = w.heap.size + 1 + 1 := ⟨_, rfl⟩
          have HGM := hide hgm
          rw [← hgm] at hn hlt2 ⊢
          clear hgm
          have x0 : ∀ n l, (rowW (Z.drewN n) gm 53 l []).cell? ⟨gq, 0, none⟩ = some (.int .i64 a) := fun n l => (cell_rowW_other _ _ _ _ _ _ _ (unhide hn)).trans (unhide hc).1
          have x1 : ∀ n l, (rowW (Z.drewN n) gm 53 l []).cell? ⟨gq, 1, none⟩ = some (.int .i64 b) := fun n l => (cell_rowW_other _ _ _ _ _ _ _ (unhide hn)).trans (unhide hc).2.1
          have x2 : ∀ n l, (rowW (Z.drewN n) gm 53 l []).cell? ⟨gq, 2, none⟩ = some (.int .i64 c1) := fun n l => (cell_rowW_other _ _ _ _ _ _ _ (unhide hn)).trans (unhide hc).2.2.1
          have x3 : ∀ n l, (rowW (Z.drewN n) gm 53 l []).cell? ⟨gq, 3, none⟩ = some (.int .i64 d) := fun n l => (cell_rowW_other _ _ _ _ _ _ _ (unhide hn)).trans (unhide hc).2.2.2
          have qf' := unhide qf
          obtain ⟨ha, hb, hcc, hd, n1, n2, n3, n4, n5, n6⟩ := qf'
          have HS := hide (qL_sets ys a b c1 d (by rw [unhide HL]; exact ha) (by rw [unhide HL]; exact hb) (by rw [unhide HL]; exact hcc) (by rw [unhide HL]; exact hd) n1 n2 n3 n4 n5 n6)
          clear n1 n2 n3 n4 n5 n6
          have y0 := m_facts Z gm ys (unhide hlt2) (unhide HL) a ha
          have y1 := m_facts Z gm ys (unhide hlt2) (unhide HL) b hb
          have y2 := m_facts Z gm ys (unhide hlt2) (unhide HL) c1 hcc
          have y3 := m_facts Z gm ys (unhide hlt2) (unhide HL) d hd
          have a0 : (0 : Int) ≤ (a : Int) := by omega
          have a1 : (a : Int) < 16 := by omega
          have b0 : (0 : Int) ≤ (b : Int) := by omega
          have b1 : (b : Int) < 16 := by omega
          have c10 : (0 : Int) ≤ (c1 : Int) := by omega
          have c11 : (c1 : Int) < 16 := by omega
          have d0 : (0 : Int) ≤ (d : Int) := by omega
          have d1 : (d : Int) < 16 := by omega
          have HA := hide ha
          have HB := hide hb
          have HC := hide hcc
          have HD := hide hd
          clear ha hb hcc hd
          go_quiet ((go_at_call 41; refine Calls.quiet_of_same (turned_any _ _ _ _ _)))
          rw [show (rowW (Z.drewN 0) gm 53 ys []).drewN nq = rowW (Z.drewN nq) gm 53 ys [] from rfl]
          have hE : Hid (rnd8 Y (k + 1) = (((ys.set a (tA (gW ys a) (gW ys b) (gW ys c1) (gW ys d))).set b (tB (gW ys a) (gW ys b) (gW ys c1) (gW ys d))).set c1 (tC (gW ys a) (gW ys b) (gW ys c1) (gW ys d))).set d (tD (gW ys a) (gW ys b) (gW ys c1) (gW ys d))) := (unhide HE).trans (unhide HS)
          clear HS HE y0 y1 y2 y3 qf
          generalize tA (gW ys a) (gW ys b) (gW ys c1) (gW ys d) = xa at *
          generalize tB (gW ys a) (gW ys b) (gW ys c1) (gW ys d) = xb at *
          generalize tC (gW ys a) (gW ys b) (gW ys c1) (gW ys d) = xc at *
          generalize tD (gW ys a) (gW ys b) (gW ys c1) (gW ys d) = xd at *
          have D := drewN_row Z
          obtain ⟨z0, s0'⟩ := s_facts Z gm (unhide hlt2) a (unhide HA) xa ys (unhide HL)
          obtain ⟨z1, s1'⟩ := s_facts Z gm (unhide hlt2) b (unhide HB) xb (ys.set a xa) (by rw [List.length_set]; exact unhide HL)
          obtain ⟨z2, s2'⟩ := s_facts Z gm (unhide hlt2) c1 (unhide HC) xc ((ys.set a xa).set b xb) (by rw [List.length_set, List.length_set]; exact unhide HL)
          obtain ⟨z3, s3'⟩ := s_facts Z gm (unhide hlt2) d (unhide HD) xd (((ys.set a xa).set b xb).set c1 xc) (by rw [List.length_set, List.length_set, List.length_set]; exact unhide HL)
          have v0 := (cs_facts Z gm (unhide hlt2) a (unhide HA) ys (unhide HL))
          have v1 := (cs_facts Z gm (unhide hlt2) b (unhide HB) (ys.set a xa) (by rw [List.length_set]; exact unhide HL))
          have v2 := (cs_facts Z gm (unhide hlt2) c1 (unhide HC) ((ys.set a xa).set b xb) (by rw [List.length_set, List.length_set]; exact unhide HL))
          have v3 := (cs_facts Z gm (unhide hlt2) d (unhide HD) (((ys.set a xa).set b xb).set c1 xc) (by rw [List.length_set, List.length_set, List.length_set]; exact unhide HL))
          go_wp2
          go_region
          clear x0 x1 x2 x3 a0 a1 b0 b1 c10 c11 d0 d1 z0 z1 z2 z3 s0' s1' s2' s3' v0 v1 v2 v3 D
          go_wp2
          go_roundw
          case rel =>
            have hst : ∀ n, St w w.heap.size T (rnd8 Y (k + 1)) (rowW (Z.drewN n) gm 53 ((((ys.set a xa).set b xb).set c1 xc).set d xd) []) := by
              intro n
              rw [unhide hE, unhide HGM]
              exact (unhide ST2).put _ _
            have hgm := unhide HGM
            subst hgm
            (repeat apply Exists.intro)
            refine ⟨⟨k + 1, by omega, ?_, hst _⟩, rfl⟩
            go_num
          case measure => simp [intOf]; omega
        · obtain rfl : k = 8 := by omega
          have ST := hide st
          clear st
          go_wp2
          go_roundw
          case rel =>
            have hst : St w w.heap.size T (rndC T (r + 1)) wr := by
              rw [unhide hY, ← rnd8_all]
              exact unhide ST
            first
              | exact ⟨r + 1, by omega, by go_num, hst⟩
              | ((repeat apply Exists.intro); exact ⟨⟨r + 1, by omega, by go_num, hst⟩, rfl⟩)
          case measure => simp [intOf]; omega
    · obtain rfl : r = 10 := by omega
      have ST := hide st
      clear st
      have hF : Hid (rndC T 10 = rndC T 10) := rfl
      have HFl := hide ((rndC_len T 10).trans (unhide HTl))
      generalize hFF : rndC T 10 = F at *
      have HF2 := hide hFF
      clear hFF hF
      go_wp2
      generalize hX : wr.alloc _ = X
      have hx : Ot w w.heap.size T F X wr.heap.size 0 X := by
        rw [← hX]
        exact ot_made (unhide ST) _ (by kernel_rfl)
      clear hX
      have HX := hide hx
      clear hx ST
      generalize wr.heap.size = go at *
      go_loopw [64] (fun i wr => ∃ j : Nat, j ≤ 64 ∧ i = .int .i64 j ∧ Ot w w.heap.size T F X go j wr) (fun i _ => 64 - (intOf i).toNat)
      case atStart => exact ⟨0, by omega, rfl, unhide HX⟩
      case round =>
        clear HX
        obtain ⟨j, hj, rfl, ot⟩ := hrel
        by_cases hlt64 : j < 64
        · obtain ⟨m, e, hme, hm16, he4⟩ : ∃ m e, j = 4 * m + e ∧ m < 16 ∧ e < 4 := ⟨j / 4, j % 4, by omega, by omega, by omega⟩
          have qj : (j : Int) < 64 := by omega
          have q0 : (0 : Int) ≤ (j : Int) := by omega
          have m0 : (0 : Int) ≤ (m : Int) := by omega
          have m1 : (m : Int) < 16 := by omega
          have d1 : (j : Int) / 4 = (m : Int) := by omega
          have hrow : wr = rowL (wr.drewN 0) go 62 .u8 (outZ F T j) [] := (row_same wr go 62 .u8 (outZ F T j) [] ot.o).symm
          have hlt2 := hide ot.lt
          have OT := hide ot
          have hlen := outZ_len F T j hj
          have pm : ∀ n l, (rowL (wr.drewN n) go 62 .u8 l []).cell? ⟨w.heap.size + 1 + 1, m, none⟩ = some (.int .u32 (wi (gW F m))) := fun n l => row_cellE ((get_row_other (wr.drewN n) go 62 .u8 l [] (w.heap.size + 1 + 1) (by have := ot.gt; omega)).trans ot.m) m (by rw [unhide HFl]; exact hm16)
          have ps : ∀ n l, (rowL (wr.drewN n) go 62 .u8 l []).cell? ⟨w.heap.size, m, none⟩ = some (.int .u32 (wi (gW T m))) := fun n l => row_cellE ((get_row_other (wr.drewN n) go 62 .u8 l [] (w.heap.size) (by have := ot.gt; omega)).trans ot.s) m (by rw [unhide HTl]; exact hm16)
          have po : ∀ n, (rowL (wr.drewN n) go 62 .u8 (outZ F T j) []).cell? ⟨go, j, none⟩ = some (.int .u8 ((outZ F T j).getD j 0)) := fun n => cell_row _ _ _ _ _ _ _ (by omega) ot.lt
          have pf : ∀ n, (rowL (wr.drewN n) go 62 .u8 (outZ F T j) []).frozen? ⟨go, j, none⟩ = false := fun n => frozen_row _ _ _ _ _ _ _ ot.lt
          have px : ∀ n v, (rowL (wr.drewN n) go 62 .u8 (outZ F T j) []).setCell ⟨go, j, none⟩ (.int .u8 v) = rowL (wr.drewN n) go 62 .u8 ((outZ F T j).set j v) [] := fun n v => set_row _ _ _ _ _ _ _ v (by omega) ot.lt
          have D : ∀ n l, (rowL (wr.drewN n) go 62 .u8 l []).drew = rowL (wr.drewN (n + 1)) go 62 .u8 l [] := fun n l => rfl
          rw [hrow]
          have HS := hide (outZ_succ F T j hlt64)
          have HB := hide (byte_at F T m e j hm16 he4 hme)
          have HJ := hide hlt64
          clear hrow ot hlen hlt64 hj hm16
          have eN := w_add' (gW F m) (gW T m)
          have HZ : Hid (leB (gW F m + gW T m) = leB (gW F m + gW T m)) := rfl
          obtain ⟨z0, z9⟩ := wi_bd (gW F m + gW T m)
          have HV : Hid (∀ v, v = (leB (gW F m + gW T m)).getD e 0 → (outZ F T j).set j v = outZ F T (j + 1)) := fun v hv => by rw [← unhide HS, unhide HB v hv]
          unfold leB at HV
          clear HB HS HZ
          generalize wi (gW F m + gW T m) = z at *
          generalize wi (gW F m) = x1 at *
          generalize wi (gW T m) = x2 at *
          have finish : ∀ n v, v = [z % 256, z / 256 % 256, z / 65536 % 256, z / 16777216].getD e 0 → Ot w w.heap.size T F X go (j + 1) (rowL (wr.drewN n) go 62 .u8 ((outZ F T j).set j v) []) := fun n v hv => by
            rw [unhide HV v hv]
            exact (unhide OT).put n (j + 1)
          have FI := hide finish
          clear finish HV
          generalize outZ F T j = ol at *
          obtain rfl | rfl | rfl | rfl : e = 0 ∨ e = 1 ∨ e = 2 ∨ e = 3 := by omega
          · have d2 : (j : Int) % 4 = 0 := by omega
            clear hme he4
            go_wp2
            go_region
            clear pm ps po pf px D
            go_wp2
            go_roundw
            case rel =>
              first
                | exact ⟨j + 1, unhide HJ, by go_num, unhide FI _ _ (rfl)⟩
                | ((repeat apply Exists.intro); refine ⟨⟨j + 1, unhide HJ, ?_, unhide FI _ _ (rfl)⟩, rfl⟩; go_num)
            case measure => have := unhide HJ; simp [intOf]; omega
          · have d2 : (j : Int) % 4 = 1 := by omega
            clear hme he4
            go_wp2
            go_region
            clear pm ps po pf px D
            go_wp2
            go_roundw
            case rel =>
              first
                | exact ⟨j + 1, unhide HJ, by go_num, unhide FI _ _ (rfl)⟩
                | ((repeat apply Exists.intro); refine ⟨⟨j + 1, unhide HJ, ?_, unhide FI _ _ (rfl)⟩, rfl⟩; go_num)
            case measure => have := unhide HJ; simp [intOf]; omega
          · have d2 : (j : Int) % 4 = 2 := by omega
            clear hme he4
            go_wp2
            go_region
            clear pm ps po pf px D
            go_wp2
            go_roundw
            case rel =>
              first
                | exact ⟨j + 1, unhide HJ, by go_num, unhide FI _ _ (rfl)⟩
                | ((repeat apply Exists.intro); refine ⟨⟨j + 1, unhide HJ, ?_, unhide FI _ _ (rfl)⟩, rfl⟩; go_num)
            case measure => have := unhide HJ; simp [intOf]; omega
          · have d2 : (j : Int) % 4 = 3 := by omega
            clear hme he4
            go_wp2
            go_region
            clear pm ps po pf px D
            go_wp2
            go_roundw
            case rel =>
              first
                | exact ⟨j + 1, unhide HJ, by go_num, unhide FI _ _ (by first | rfl | (show _ = z / 16777216; omega))⟩
                | ((repeat apply Exists.intro); refine ⟨⟨j + 1, unhide HJ, ?_, unhide FI _ _ (by first | rfl | (show _ = z / 16777216; omega))⟩, rfl⟩; go_num)
            case measure => have := unhide HJ; simp [intOf]; omega
        · obtain rfl : j = 64 := by omega
          have hB := outN_len F T 16
          have ho := ot.o
          have hbel := hide ot.below
          have hgt := hide ot.gt
          have hr := hide ot.r
          rw [outZ_all] at ho
          generalize hBB : outN F T 16 = B at *
          have HB2 := hide hBB
          clear hBB
          have ho2 : Hid (wr.heap[go]? = some (.cells (B.map (Value.int .u8)).toArray 62 (0, 0))) := hide (by rw [ho, rowObj, List.append_nil])
          have hsz : Hid ((Tryd.prog.info? 62).map (·.size) = some (B.map (Value.int .u8)).toArray.size) := hide (by rw [(zero_of_info info49).2]; simp [hB])
          have hol : Hid ((Array.replicate 64 (Value.int .u8 0)).size = (B.map (Value.int .u8)).toArray.size) := hide (by simp [hB])
          have hall : Hid ((B.map (Value.int .u8)).toArray.all (·.oneCell') = true) := hide (by simp [Value.oneCell'])
          have HB := hide hB
          clear ot ho hB
          generalize hCC : (B.map (Value.int .u8)).toArray = cs at *
          have HC2 := hide hCC
          clear hCC
          go_wp2_with (first
            | refine wpList_load_row rfl 62 _ rfl go rfl 62 _ (0, 0) _ (unhide ho2) Tryd.underlying62 rfl (unhide hsz) ?_
            | refine wpList_store_row rfl 62 _ _ rfl (w.heap.size + 1) cs rfl rfl 62 _ (unhide hr) (unhide hsz) (unhide hol) (unhide hall) ?_)
          refine bodyPost_ret (v := .agg cs) ?_ rfl ⟨?_, ?_⟩
          · exact results_cell_row rfl _ _ (w.heap.size + 1) 62 cs (0, 0) _ rfl (get_setRow (unhide hr)) Tryd.underlying62 rfl (unhide hsz)
          · rw [unhide HF2, unhide HB2, unhide HC2]
          · exact below_setRow (unhide hbel) (by omega)
end Go.Proofs.YtggiijlgdpkkfaaDoor
