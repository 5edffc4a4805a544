/- The law of BlameHop. -/
import Derived.Test.YtecgfkfifocbaaaBlp
namespace Go.Proofs.Ytecgfkfifocbaaa
open Go.RowKit
set_option maxHeartbeats 4000000
set_option maxRecDepth 20000
theorem eq15 (a : Int) (b : Bool) (w : World) : Calls Try.prog 15 #[vV a b, vV a b] w fun e w' => e = .returned (.bool true) ∧ Below w.heap.size w w' := by
  go_enter Try.func15, Try.ntmps15
  go_wp2
  go_ret
  exact ⟨rfl, bl_al (bl_al (Below.refl _ _))⟩
theorem newV (W : World) (x : Int) (y : Bool) : Below W.heap.size W (W.alloc (.cells #[.int .i64 x, .bool y] 32)) ∧
    (W.alloc (.cells #[.int .i64 x, .bool y] 32)).heap[W.heap.size]? = some (.cells #[.int .i64 x, .bool y] 32 (0, 0)) :=
  ⟨bl_al (Below.refl _ _), heap_at _ _ _ rfl⟩
theorem law_blame (w : World) (v : Value) (ts : List ByteArray) (hv : strsV w v ts) (hl : ts.length ≤ maxLen) (hs' : ∀ t ∈ ts, t.size ≤ maxLen) (vb : Value) (xss : List (List ByteArray)) (hb : lssV w vb xss) (hlb : xss.length ≤ maxLen) (hsb : ∀ i, i < xss.length → (xss.getD i []).length ≤ maxLen ∧ ∀ t ∈ xss.getD i [], t.size ≤ maxLen) :
    Calls Try.prog 4 #[v, vb] w fun e w' => e = .returned (.bool true) ∧ Below w.heap.size w w' := by
  have HV := hide hv
  have HB := hide hb
  have KS := hide (szS 1048576 v ts w hv hl hs' (by omega) (by omega))
  have KB := hide (fun l h0 h1 => sz11 l vb xss w hb hlb hsb h0 h1)
  have HTO : Hid (ts.length ≤ 1048576 → ∀ u W, strsV W u ts → Calls Try.prog 8 #[u] W fun e w' => ∃ r, e = .returned r ∧ ownS W.heap.size w'.heap.size w' r ts ∧ Below W.heap.size W w') := hide fun hn u W hu => to30 u ts W hu (by omega)
  have HTB : Hid (fewL xss → ∀ u W, lssV W u xss → Calls Try.prog 13 #[u] W fun e w' => ∃ r, e = .returned r ∧ lssV w' r xss ∧ Below W.heap.size W w') := hide fun hf u W hu => to13 u xss W hu hf
  have HSP : Hid (ts.length ≤ 1048576 → fewL xss → ∀ u u' W, strsV W u ts → lssV W u' xss → Calls Try.prog 12 #[u, u'] W (outB W ts xss)) := hide fun hn hf u u' W hu hu' => blame12 u u' ts xss W hu hu' hn hf
  have HIM : Hid (ts.length ≤ 1048576 → fewL xss → ∀ u u' W, strsV W u ts → lssV W u' xss → Calls Try.prog 14 #[u, u'] W (outB W ts xss)) := hide fun hn hf u u' W hu hu' => blame14 u u' ts xss W hu hu' hn hf
  have HEX : Hid (ts.length ≤ 1048576 → ∀ u u' W, strsV W u ts → strsV W u' ts → Calls Try.prog 10 #[u, u'] W fun e w' => e = .returned (.bool true) ∧ ∃ k, w' = W.drewN k) := hide fun hn u u' W hu hu' => eq33 u u' ts W hu hu' (by omega)
  have HEB : Hid (fewL xss → ∀ u u' W, lssV W u xss → lssV W u' xss → Calls Try.prog 16 #[u, u'] W fun e w' => e = .returned (.bool true) ∧ ∃ k, w' = W.drewN k) := hide fun hf u u' W hu hu' => eq16 u u' xss W hu hu' hf
  obtain ⟨A, cap, rfl, hc⟩ := hv
  obtain ⟨A2, cap2, rfl, hc2⟩ := hb
  clear hc hc2 hl hs' hlb hsb
  unfold outB at HSP HIM
  generalize (bP ts xss).1 = x at *
  generalize (bP ts xss).2 = y at *
  generalize bC ts xss = C at *
  go_enter Try.func4, Try.ntmps4
  go_wp2_with fail
  refine (unhide KS).mono ?_
  rintro e w1 ⟨z0, rfl, hz, hw1⟩
  have hw1' := hw1.symm
  subst hw1'
  clear KS
  by_cases h0 : z0 < 0
  · clear hz
    go_wp2
    go_ret
    exact ⟨rfl, Below.refl _ _⟩
  obtain ⟨h1, h2, h3⟩ := hz.resolve_left h0
  have HN := hide h3
  clear hz h0 h3
  go_wp2_with fail
  refine (unhide KB z0 h1 h2).mono ?_
  rintro e w1 ⟨z1, rfl, hz, hw1⟩
  have hw1' := hw1.symm
  subst hw1'
  clear KB
  by_cases h0 : z1 < 0
  · clear hz
    go_wp2
    go_ret
    exact ⟨rfl, Below.refl _ _⟩
  have HF := hide (hz.resolve_left h0)
  have h4 : 0 ≤ z1 := by omega
  clear hz h0
  go_wp2_with fail
  refine (unhide HTO (unhide HN) _ w (unhide HV)).mono ?_
  rintro e w2 ⟨u1, rfl, o2, b2⟩
  have B2 := hide b2
  have U2 := hide o2.strs
  clear o2 b2
  go_wp2_with fail
  refine (unhide HTB (unhide HF) _ w2 ((unhide HB).below (unhide B2))).mono ?_
  rintro e w3 ⟨u2, rfl, o3, b3⟩
  have B3 := hide (bl_st b3 (unhide B2))
  have U3 := hide ((unhide U2).below b3)
  have V3 := hide o3
  clear o3 b3 B2 U2
  go_wp2_with fail
  refine (unhide HSP (unhide HN) (unhide HF) _ _ w3 (unhide U3) (unhide V3)).mono ?_
  rintro e w4 ⟨rfl, b4⟩
  have B4 := hide (bl_st b4 (unhide B3))
  have N4 := hide (newV w4 x y)
  clear U3 V3 b4 B3
  go_wp2_with fail
  generalize w4.alloc (.cells #[.int .i64 x, .bool y] 32) = w5 at *
  have B5 := hide (bl_st (unhide N4).1 (unhide B4))
  have L5 := hide (Array.getElem?_eq_some_iff.1 (unhide N4).2).1
  generalize w4.heap.size = g5 at *
  refine (unhide HTO (unhide HN) _ w5 ((unhide HV).below (unhide B5))).mono ?_
  rintro e w6 ⟨u6, rfl, o6, b6⟩
  have B6 := hide (bl_st b6 (unhide B5))
  have X6 := hide o6.strs
  have R6 := hide ((b6.block _ (unhide L5)).trans (unhide N4).2)
  clear o6 b6 B4 B5 N4 L5
  go_wp2_with fail
  refine (unhide HTB (unhide HF) _ w6 ((unhide HB).below (unhide B6))).mono ?_
  rintro e w7 ⟨u7, rfl, o7, b7⟩
  have B7 := hide (bl_st b7 (unhide B6))
  have X7 := hide ((unhide X6).below b7)
  have Y7 := hide o7
  have R7 := hide ((b7.block _ (Array.getElem?_eq_some_iff.1 (unhide R6)).1).trans (unhide R6))
  clear o7 b7 B6 X6 R6
  go_wp2_with fail
  refine (unhide HIM (unhide HN) (unhide HF) _ _ w7 (unhide X7) (unhide Y7)).mono ?_
  rintro e w8 ⟨rfl, b8⟩
  have B8 := hide (bl_st b8 (unhide B7))
  have X8 := hide ((unhide X7).below b8)
  have Y8 := hide ((unhide Y7).below b8)
  have R8 := hide ((b8.block _ (Array.getElem?_eq_some_iff.1 (unhide R7)).1).trans (unhide R7))
  have N8 := hide (newV w8 x y)
  have hr8 := ((unhide N8).1.block _ (Array.getElem?_eq_some_iff.1 (unhide R8)).1).trans (unhide R8)
  have k8 := (unhide N8).2
  have a0 := row_cell (i := 0) hr8
  have a1 := row_cell (i := 1) hr8
  have e0 := row_cell (i := 0) k8
  have e1 := row_cell (i := 1) k8
  have X9 := hide ((unhide X8).below (unhide N8).1)
  have Y9 := hide ((unhide Y8).below (unhide N8).1)
  have B9 := hide (bl_st (unhide N8).1 (unhide B8))
  clear b8 B7 X7 Y7 X8 Y8 R7 R8 hr8 k8 B8
  have KE := hide (fun W => eq15 x y W)
  have cc : (C != C) = false := by simp
  go_wp2_with fail
  generalize w8.alloc (.cells #[.int .i64 x, .bool y] 32) = w9 at *
  generalize w8.heap.size = g9 at *
  refine (unhide KE _).mono ?_
  rintro e wa ⟨rfl, ba⟩
  have Ba := hide (bl_st ba (unhide B9))
  have Xa := hide ((unhide X9).below ba)
  have Ya := hide ((unhide Y9).below ba)
  clear ba B9 X9 Y9 a0 a1 e0 e1 N8 KE
  go_wp2_with fail
  refine (unhide HTO (unhide HN) _ wa ((unhide HV).below (unhide Ba))).mono ?_
  rintro e wb ⟨ub, rfl, ob, bb⟩
  have Bb := hide (bl_st bb (unhide Ba))
  have Xb := hide ((unhide Xa).below bb)
  have Yb := hide ((unhide Ya).below bb)
  have Ub := hide ob.strs
  clear ob bb Ba Xa Ya
  go_wp2_with fail
  refine (unhide HEX (unhide HN) _ _ wb (unhide Xb) (unhide Ub)).mono ?_
  rintro e wc ⟨rfl, kc, hwc⟩
  have Bc := hide (show Below w.heap.size w wc by rw [hwc]; exact below_drewN (unhide Bb) kc)
  have Yc := hide (show lssV wc u7 xss by rw [hwc]; exact (unhide Yb).drewN kc)
  clear hwc Bb Xb Ub Yb
  go_wp2_with fail
  refine (unhide HTB (unhide HF) _ wc ((unhide HB).below (unhide Bc))).mono ?_
  rintro e wd ⟨ud, rfl, od, bd⟩
  have Bd := hide (bl_st bd (unhide Bc))
  have Yd := hide ((unhide Yc).below bd)
  have Vd := hide od
  clear od bd Bc Yc
  go_wp2_with fail
  refine (unhide HEB (unhide HF) _ _ wd (unhide Yd) (unhide Vd)).mono ?_
  rintro e we ⟨rfl, ke, hwe⟩
  have Be := hide (show Below w.heap.size w we by rw [hwe]; exact below_drewN (unhide Bd) ke)
  clear hwe Bd Yd Vd
  go_wp2
  go_ret
  exact ⟨rfl, unhide Be⟩
end Go.Proofs.Ytecgfkfifocbaaa
