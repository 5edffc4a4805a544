/- What a mix has made: copied, compared, marked. -/
import Derived.Test.YtggiijlgdpkkfaaDoorMxs
import Derived.OwnWalk
namespace Go.Proofs.YtggiijlgdpkkfaaDoor
open Go.RowKit
set_option maxHeartbeats 4000000
set_option maxRecDepth 20000
theorem TouchR.wide {lo hi lo' hi' : Nat} {a b : World} (h : TouchR lo hi a b) (h1 : lo' ≤ lo) (h2 : hi ≤ hi') : TouchR lo' hi' a b := ⟨h.os, h.tape, h.output, h.size, fun k hk hq => h.block k hk (by omega)⟩
theorem touch_set (q k : Nat) (X : World) (v : Value) : TouchR q (q + 1) X (X.setCell ⟨q, k, none⟩ v) :=
  ⟨rfl, rfl, rfl, by simp [World.setCell], fun j _ hq => by simp only [World.setCell]; rw [Array.getElem?_modify, if_neg (by omega)]⟩
/-- what came in, the answer's block, the copy under way -/
structure T3 (w : World) (C Z L : Array Value) (W : World) : Prop where
  bx : W.heap[w.heap.size]? = some (.cells C 25 (0, 0))
  rs : W.heap[w.heap.size + 1]? = some (.cells Z 30 (0, 0))
  lc : W.heap[w.heap.size + 1 + 1]? = some (.cells L 30 (0, 0))
  be : Below w.heap.size w W
theorem T3.sz {w W : World} {C Z L : Array Value} (h : T3 w C Z L W) : w.heap.size + 1 + 1 < W.heap.size := (Array.getElem?_eq_some_iff.1 h.lc).1
theorem T3.below {w W W' : World} {C Z L : Array Value} (h : T3 w C Z L W) (hb : Below W.heap.size W W') : T3 w C Z L W' :=
  ⟨(hb.block _ (Array.getElem?_eq_some_iff.1 h.bx).1).trans h.bx, (hb.block _ (Array.getElem?_eq_some_iff.1 h.rs).1).trans h.rs, (hb.block _ (Array.getElem?_eq_some_iff.1 h.lc).1).trans h.lc, bl_st hb h.be⟩
theorem T3.set {w W : World} {C Z L : Array Value} (h : T3 w C Z L W) (k : Nat) (v : Value) : T3 w C Z (L.setIfInBounds k v) (W.setCell ⟨w.heap.size + 1 + 1, k, none⟩ v) :=
  ⟨row_set_other h.bx (by omega), row_set_other h.rs (by omega), row_set h.lc, bl_set h.be (by omega)⟩
theorem T3.new (w : World) (C Z L : Array Value) : T3 w C Z L (((w.alloc (.cells C 25 (0, 0))).alloc (.cells Z 30 (0, 0))).alloc (.cells L 30 (0, 0))) := by
  refine ⟨?_, ?_, ?_, bl_al (bl_al (bl_al (Below.refl _ _)))⟩
  · rw [Below.heap_alloc _ _ _ (by simp; omega), Below.heap_alloc _ _ _ (by simp)]
    exact heap_at _ _ _ rfl
  · rw [Below.heap_alloc _ _ _ (by simp)]
    exact heap_at _ _ _ (by simp)
  · exact heap_at _ _ _ (by simp)
theorem to7 (v : Value) (x : Mx) (w : World) (hv : mxV w v x) (hn : mxN x ≤ 1048576) :
    Calls Tryd.prog 7 #[v] w fun e w' => ∃ r, e = .returned r ∧ ownM w.heap.size w'.heap.size w' r x ∧ Below w.heap.size w w' := by
  obtain ⟨i, r, f, s, rfl, hi, hr, hf, hs⟩ := hv
  obtain ⟨xi, xr, xf, xs, xb, xa⟩ := x
  dsimp only [mxN] at *
  have t3 := T3.new w #[i, r, f, s, .int .i64 xb, .int .i64 xa] #[.slice none 0 0, .slice none 0 0, .slice none 0 0, .slice none 0 0, .int .i64 0, .int .i64 0] #[.slice none 0 0, .slice none 0 0, .slice none 0 0, .slice none 0 0, .int .i64 0, .int .i64 0]
  have K1 := hide (fun W (h : strsV W i xi) => to30 i xi W h (by omega))
  have K2 := hide (fun W (h : strsV W r xr) => to30 r xr W h (by omega))
  have K3 := hide (fun W (h : intsV W f xf) => to6 f xf W h (by omega))
  have K4 := hide (fun W (h : strsV W s xs) => to30 s xs W h (by omega))
  have HI := hide hi
  have HR := hide hr
  have HF := hide hf
  have HS := hide hs
  obtain ⟨A1, d1, rfl⟩ := hi.slice
  obtain ⟨A2, d2, rfl⟩ := hr.slice
  obtain ⟨A3, d3, rfl⟩ := hf.slice
  obtain ⟨A4, d4, rfl⟩ := hs.slice
  have T0 := hide t3
  have e0 : _ = some (α := Value) (.slice A1 xi.length d1) := row_cell (i := 0) t3.bx
  clear hi hr hf hs hn t3
  go_enter Tryd.func7, Tryd.ntmps7
  go_wp2_with fail
  generalize ((w.alloc (.cells #[.slice A1 xi.length d1, .slice A2 xr.length d2, .slice A3 xf.length d3, .slice A4 xs.length d4, .int .i64 xb, .int .i64 xa] 25)).alloc (.cells #[.slice none 0 0, .slice none 0 0, .slice none 0 0, .slice none 0 0, .int .i64 0, .int .i64 0] 30)).alloc (.cells #[.slice none 0 0, .slice none 0 0, .slice none 0 0, .slice none 0 0, .int .i64 0, .int .i64 0] 30) = v0 at *
  have Z0 := hide (unhide T0).sz
  refine (unhide K1 v0 ((unhide HI).below (unhide T0).be)).mono ?_
  rintro e w1 ⟨r1, rfl, o, b⟩
  have t := (unhide T0).below b
  have OO1 := hide o
  have Y1 := hide b.size
  obtain ⟨B1, g1, rfl⟩ := o.strs.slice
  have l0 : _ = some (α := Value) (.slice none 0 0) := row_cell (i := 0) t.lc
  have fz0 := row_free (i := 0) t.lc
  have e1 : _ = some (α := Value) (.slice A2 xr.length d2) := row_cell (i := 1) t.bx
  have t2 : T3 w #[.slice A1 xi.length d1, .slice A2 xr.length d2, .slice A3 xf.length d3, .slice A4 xs.length d4, .int .i64 xb, .int .i64 xa] #[.slice none 0 0, .slice none 0 0, .slice none 0 0, .slice none 0 0, .int .i64 0, .int .i64 0] #[.slice B1 xi.length g1, .slice none 0 0, .slice none 0 0, .slice none 0 0, .int .i64 0, .int .i64 0] _ := t.set 0 (.slice B1 xi.length g1)
  have T1 := hide t2
  have P1 := hide ((unhide OO1).touchR (touch_set (w.heap.size + 1 + 1) 0 w1 (.slice B1 xi.length g1)) (Or.inr (by have := unhide Z0; have := (unhide T0).sz; have := unhide Y1; omega)))
  have SS1 := hide (size_set w1 (w.heap.size + 1 + 1) 0 (.slice B1 xi.length g1))
  clear t t2 o b T0 OO1 e0 K1 HI
  go_wp2_with fail
  generalize w1.setCell ⟨w.heap.size + 1 + 1, 0, none⟩ (.slice B1 xi.length g1) = v1 at *
  refine (unhide K2 v1 ((unhide HR).below (unhide T1).be)).mono ?_
  rintro e w2 ⟨r2, rfl, o, b⟩
  have t := (unhide T1).below b
  have OO2 := hide o
  have Y2 := hide b.size
  have P1b := hide ((unhide P1).below b)
  obtain ⟨B2, g2, rfl⟩ := o.strs.slice
  have l1 : _ = some (α := Value) (.slice none 0 0) := row_cell (i := 1) t.lc
  have fz1 := row_free (i := 1) t.lc
  have e2 : _ = some (α := Value) (.slice A3 xf.length d3) := row_cell (i := 2) t.bx
  have t2 : T3 w #[.slice A1 xi.length d1, .slice A2 xr.length d2, .slice A3 xf.length d3, .slice A4 xs.length d4, .int .i64 xb, .int .i64 xa] #[.slice none 0 0, .slice none 0 0, .slice none 0 0, .slice none 0 0, .int .i64 0, .int .i64 0] #[.slice B1 xi.length g1, .slice B2 xr.length g2, .slice none 0 0, .slice none 0 0, .int .i64 0, .int .i64 0] _ := t.set 1 (.slice B2 xr.length g2)
  have T2 := hide t2
  have P2 := hide ((unhide OO2).touchR (touch_set (w.heap.size + 1 + 1) 1 w2 (.slice B2 xr.length g2)) (Or.inr (by have := unhide Z0; have := (unhide T1).sz; have := unhide Y1; have := unhide Y2; have := unhide SS1; omega)))
  have P1c := hide ((unhide P1b).touchR (touch_set (w.heap.size + 1 + 1) 1 w2 (.slice B2 xr.length g2)) (Or.inr (by have := unhide Z0; have := unhide Y1; have := unhide Y2; have := unhide SS1; omega)))
  have SS2 := hide (size_set w2 (w.heap.size + 1 + 1) 1 (.slice B2 xr.length g2))
  clear t t2 o b T1 OO2 e1 l0 fz0 K2 HR
  go_wp2_with fail
  generalize w2.setCell ⟨w.heap.size + 1 + 1, 1, none⟩ (.slice B2 xr.length g2) = v2 at *
  refine (unhide K3 v2 ((unhide HF).below (unhide T2).be)).mono ?_
  rintro e w3 ⟨r3, rfl, o, b⟩
  have t := (unhide T2).below b
  have OO3 := hide o
  have Y3 := hide b.size
  have P1cb := hide ((unhide P1c).below b)
  have P2b := hide ((unhide P2).below b)
  obtain ⟨B3, g3, rfl⟩ := o.ints.slice
  have l2 : _ = some (α := Value) (.slice none 0 0) := row_cell (i := 2) t.lc
  have fz2 := row_free (i := 2) t.lc
  have e3 : _ = some (α := Value) (.slice A4 xs.length d4) := row_cell (i := 3) t.bx
  have t2 : T3 w #[.slice A1 xi.length d1, .slice A2 xr.length d2, .slice A3 xf.length d3, .slice A4 xs.length d4, .int .i64 xb, .int .i64 xa] #[.slice none 0 0, .slice none 0 0, .slice none 0 0, .slice none 0 0, .int .i64 0, .int .i64 0] #[.slice B1 xi.length g1, .slice B2 xr.length g2, .slice B3 xf.length g3, .slice none 0 0, .int .i64 0, .int .i64 0] _ := t.set 2 (.slice B3 xf.length g3)
  have T3 := hide t2
  have P3 := hide ((unhide OO3).touchR (touch_set (w.heap.size + 1 + 1) 2 w3 (.slice B3 xf.length g3)) (Or.inr (by have := unhide Z0; have := (unhide T2).sz; have := unhide Y1; have := unhide Y2; have := unhide Y3; have := unhide SS1; have := unhide SS2; omega)))
  have P1cc := hide ((unhide P1cb).touchR (touch_set (w.heap.size + 1 + 1) 2 w3 (.slice B3 xf.length g3)) (Or.inr (by have := unhide Z0; have := unhide Y1; have := unhide Y2; have := unhide Y3; have := unhide SS1; have := unhide SS2; omega)))
  have P2c := hide ((unhide P2b).touchR (touch_set (w.heap.size + 1 + 1) 2 w3 (.slice B3 xf.length g3)) (Or.inr (by have := unhide Z0; have := unhide Y1; have := unhide Y2; have := unhide Y3; have := unhide SS1; have := unhide SS2; omega)))
  have SS3 := hide (size_set w3 (w.heap.size + 1 + 1) 2 (.slice B3 xf.length g3))
  clear t t2 o b T2 OO3 e2 l1 fz1 K3 HF
  go_wp2_with fail
  generalize w3.setCell ⟨w.heap.size + 1 + 1, 2, none⟩ (.slice B3 xf.length g3) = v3 at *
  refine (unhide K4 v3 ((unhide HS).below (unhide T3).be)).mono ?_
  rintro e w4 ⟨r4, rfl, o, b⟩
  have t := (unhide T3).below b
  have OO4 := hide o
  have Y4 := hide b.size
  have P1ccb := hide ((unhide P1cc).below b)
  have P2cb := hide ((unhide P2c).below b)
  have P3b := hide ((unhide P3).below b)
  obtain ⟨B4, g4, rfl⟩ := o.strs.slice
  have l3 : _ = some (α := Value) (.slice none 0 0) := row_cell (i := 3) t.lc
  have fz3 := row_free (i := 3) t.lc
  have e4 : _ = some (α := Value) (.int .i64 xb) := row_cell (i := 4) t.bx
  have e5 : _ = some (α := Value) (.int .i64 xa) := row_cell (i := 5) t.bx
  have l4 : _ = some (α := Value) (.int .i64 0) := row_cell (i := 4) t.lc
  have fz4 := row_free (i := 4) t.lc
  have l5 : _ = some (α := Value) (.int .i64 0) := row_cell (i := 5) t.lc
  have fz5 := row_free (i := 5) t.lc
  have m0 : _ = some (α := Value) (.slice B1 xi.length g1) := row_cell (i := 0) t.lc
  have m1 : _ = some (α := Value) (.slice B2 xr.length g2) := row_cell (i := 1) t.lc
  have m2 : _ = some (α := Value) (.slice B3 xf.length g3) := row_cell (i := 2) t.lc
  have rc0 : _ = some (α := Value) (.slice none 0 0) := row_cell (i := 0) t.rs
  have rf0 := row_free (i := 0) t.rs
  have rc1 : _ = some (α := Value) (.slice none 0 0) := row_cell (i := 1) t.rs
  have rf1 := row_free (i := 1) t.rs
  have rc2 : _ = some (α := Value) (.slice none 0 0) := row_cell (i := 2) t.rs
  have rf2 := row_free (i := 2) t.rs
  have rc3 : _ = some (α := Value) (.slice none 0 0) := row_cell (i := 3) t.rs
  have rf3 := row_free (i := 3) t.rs
  have rc4 : _ = some (α := Value) (.int .i64 0) := row_cell (i := 4) t.rs
  have rf4 := row_free (i := 4) t.rs
  have rc5 : _ = some (α := Value) (.int .i64 0) := row_cell (i := 5) t.rs
  have rf5 := row_free (i := 5) t.rs
  have T4 := hide t
  clear t o b T3 e3 l2 fz2 K4 HS
  go_wp2
  have tt : TouchR (w.heap.size + 1) (w.heap.size + 1 + 1 + 1) w4 _ := (((((((((touch_set (w.heap.size + 1 + 1) 3 w4 (.slice B4 xs.length g4)).wide (by omega) (by omega)).trans ((touch_set (w.heap.size + 1 + 1) 4 _ (.int .i64 xb)).wide (by omega) (by omega))).trans ((touch_set (w.heap.size + 1 + 1) 5 _ (.int .i64 xa)).wide (by omega) (by omega))).trans ((touch_set (w.heap.size + 1) 0 _ (.slice B1 xi.length g1)).wide (by omega) (by omega))).trans ((touch_set (w.heap.size + 1) 1 _ (.slice B2 xr.length g2)).wide (by omega) (by omega))).trans ((touch_set (w.heap.size + 1) 2 _ (.slice B3 xf.length g3)).wide (by omega) (by omega))).trans ((touch_set (w.heap.size + 1) 3 _ (.slice B4 xs.length g4)).wide (by omega) (by omega))).trans ((touch_set (w.heap.size + 1) 4 _ (.int .i64 xb)).wide (by omega) (by omega))).trans ((touch_set (w.heap.size + 1) 5 _ (.int .i64 xa)).wide (by omega) (by omega))
  refine bodyPost_ret (v := mxo (.slice B1 xi.length g1) (.slice B2 xr.length g2) (.slice B3 xf.length g3) (.slice B4 xs.length g4) xb xa) ?_ rfl ⟨_, rfl, ⟨_, _, _, _, w1.heap.size, w2.heap.size, w3.heap.size, rfl, ?_, ?_, ?_, ?_, ?_, ?_, ?_, ?_⟩, ?_⟩
  · exact results_cell_row rfl _ _ (w.heap.size + 1) 30 _ (0, 0) _ rfl (row_set (i := 5) (v := .int .i64 xa) (row_set (i := 4) (v := .int .i64 xb) (row_set (i := 3) (v := .slice B4 xs.length g4) (row_set (i := 2) (v := .slice B3 xf.length g3) (row_set (i := 1) (v := .slice B2 xr.length g2) (row_set (i := 0) (v := .slice B1 xi.length g1) (((((unhide T4).set 3 (.slice B4 xs.length g4)).set 4 (.int .i64 xb)).set 5 (.int .i64 xa)).rs))))))) Tryd.underlying30 rfl (by kernel_rfl)
  · have := unhide Z0; have := unhide Y1; have := unhide Y2; have := unhide Y3; have := unhide Y4; have := unhide SS1; have := unhide SS2; have := unhide SS3; omega
  · have := unhide Z0; have := unhide Y1; have := unhide Y2; have := unhide Y3; have := unhide Y4; have := unhide SS1; have := unhide SS2; have := unhide SS3; omega
  · have := unhide Z0; have := unhide Y1; have := unhide Y2; have := unhide Y3; have := unhide Y4; have := unhide SS1; have := unhide SS2; have := unhide SS3; omega
  · have := tt.size; have := unhide Z0; have := unhide Y1; have := unhide Y2; have := unhide Y3; have := unhide Y4; have := unhide SS1; have := unhide SS2; have := unhide SS3; omega
  · exact ((unhide P1ccb).touchR tt (Or.inr (by have := unhide Z0; have := unhide Y1; have := unhide Y2; have := unhide Y3; have := unhide Y4; have := unhide SS1; have := unhide SS2; have := unhide SS3; omega))).wide (by have := unhide Z0; have := unhide Y1; have := unhide Y2; have := unhide Y3; have := unhide Y4; have := unhide SS1; have := unhide SS2; have := unhide SS3; omega) (Nat.le_refl _)
  · exact ((unhide P2cb).touchR tt (Or.inr (by have := unhide Z0; have := unhide Y1; have := unhide Y2; have := unhide Y3; have := unhide Y4; have := unhide SS1; have := unhide SS2; have := unhide SS3; omega))).wide (by have := unhide Z0; have := unhide Y1; have := unhide Y2; have := unhide Y3; have := unhide Y4; have := unhide SS1; have := unhide SS2; have := unhide SS3; omega) (Nat.le_refl _)
  · exact ((unhide P3b).touchR tt (Or.inr (by have := unhide Z0; have := unhide Y1; have := unhide Y2; have := unhide Y3; have := unhide Y4; have := unhide SS1; have := unhide SS2; have := unhide SS3; omega))).wide (by have := unhide Z0; have := unhide Y1; have := unhide Y2; have := unhide Y3; have := unhide Y4; have := unhide SS1; have := unhide SS2; have := unhide SS3; omega) (Nat.le_refl _)
  · exact ((unhide OO4).touchR tt (Or.inr (by have := unhide Z0; have := unhide Y1; have := unhide Y2; have := unhide Y3; have := unhide Y4; have := unhide SS1; have := unhide SS2; have := unhide SS3; omega))).wide (by have := unhide Z0; have := unhide Y1; have := unhide Y2; have := unhide Y3; have := unhide Y4; have := unhide SS1; have := unhide SS2; have := unhide SS3; omega) tt.size
  · exact belowR (unhide T4).be tt (by omega) (by have := unhide Z0; have := unhide Y1; have := unhide Y2; have := unhide Y3; have := unhide Y4; have := unhide SS1; have := unhide SS2; have := unhide SS3; omega)
end Go.Proofs.YtggiijlgdpkkfaaDoor
