/- The law of AccessHistogram. -/
import Derived.Test.YtggiijlgdpkkfaaHc
namespace Go.Proofs.Ytggiijlgdpkkfaa
open Go.RowKit Go.Maps
set_option maxHeartbeats 4000000
set_option maxRecDepth 20000
theorem eq17 (a b c : Int) (w : World) : Calls Try.prog 17 #[hV a b c, hV a b c] w fun e w' => e = .returned (.bool true) ∧ Below w.heap.size w w' := by
  go_enter Try.func17, Try.ntmps17
  go_wp2
  go_ret
  exact ⟨rfl, bl_al (bl_al (Below.refl _ _))⟩
theorem new3 (W : World) (x y z : Int) : Below W.heap.size W (W.alloc (.cells #[.int .i64 x, .int .i64 y, .int .i64 z] 29)) ∧
    (W.alloc (.cells #[.int .i64 x, .int .i64 y, .int .i64 z] 29)).heap[W.heap.size]? = some (.cells #[.int .i64 x, .int .i64 y, .int .i64 z] 29 (0, 0)) :=
  ⟨bl_al (Below.refl _ _), heap_at _ _ _ rfl⟩
theorem law_hist (w : World) (v : Value) (ts : List ByteArray) (hv : strsV w v ts) (hl : ts.length ≤ maxLen) (hs' : ∀ t ∈ ts, t.size ≤ maxLen) :
    Calls Try.prog 5 #[v] w fun e w' => e = .returned (.bool true) ∧ Below w.heap.size w w' := by
  have HV := hide hv
  have KS := hide (sz27 v ts w hv hl hs')
  have HTO : Hid (ts.length ≤ 1048576 → ∀ u W, strsV W u ts → Calls Try.prog 16 #[u] W fun e w' => ∃ r, e = .returned r ∧ ownS W.heap.size w'.heap.size w' r ts ∧ Below W.heap.size W w') := hide fun hn u W hu => to30 u ts W hu (by omega)
  have HSP : Hid (ts.length ≤ 1048576 → ∀ u W, strsC W u ts → Calls Try.prog 11 #[u] W fun e w' => outH W ts e w') := hide fun hn u W hu => hist11 u ts W hu hn
  have HIM : Hid (ts.length ≤ 1048576 → ∀ u W, strsV W u ts → Calls Try.prog 10 #[u] W fun e w' => outH W ts e w') := hide fun hn u W hu => hist10 u ts W hu hn
  have HEX : Hid (ts.length ≤ 1048576 → ∀ u u' W, strsV W u ts → strsV W u' ts → Calls Try.prog 18 #[u, u'] W fun e w' => e = .returned (.bool true) ∧ ∃ k, w' = W.drewN k) := hide fun hn u u' W hu hu' => eq33 u u' ts W hu hu' (by omega)
  obtain ⟨A, cap, rfl, hc⟩ := hv
  clear hc hl hs'
  unfold outH at HSP HIM
  generalize hsP ts 1 = x at *
  generalize hsP ts 2 = y at *
  generalize hsP ts 3 = z at *
  generalize drC ts = C at *
  go_enter Try.func5, Try.ntmps5
  go_wp2_with fail
  refine (unhide KS).mono ?_
  rintro e w1 ⟨z0, rfl, hz, hw1⟩
  have hw1' := hw1.symm
  subst hw1'
  clear KS
  by_cases h0 : z0 < 0
  · clear hz
    go_wp2
    go_ret
    exact ⟨rfl, Below.refl _ _⟩
  have HN := hide (hz.resolve_left h0)
  have h1 : 0 ≤ z0 := by omega
  clear hz h0
  go_wp2_with fail
  refine (unhide HTO (unhide HN) _ w (unhide HV)).mono ?_
  rintro e w2 ⟨u1, rfl, o2, b2⟩
  have B2 := hide b2
  have U2 := hide o2.strsC
  clear o2 b2
  go_wp2_with fail
  refine (unhide HSP (unhide HN) _ w2 (unhide U2)).mono ?_
  rintro e w3 ⟨rfl, b3⟩
  have B3 := hide (bl_st b3 (unhide B2))
  have N3 := hide (new3 w3 x y z)
  clear U2 b3 B2
  go_wp2_with fail
  generalize w3.alloc (.cells #[.int .i64 x, .int .i64 y, .int .i64 z] 29) = w3b at *
  have B3b := hide (bl_st (unhide N3).1 (unhide B3))
  have L3 := hide (Array.getElem?_eq_some_iff.1 (unhide N3).2).1
  generalize w3.heap.size = g3 at *
  refine (unhide HTO (unhide HN) _ w3b ((unhide HV).below (unhide B3b))).mono ?_
  rintro e w4 ⟨u, rfl, o4, b4⟩
  have B4 := hide (bl_st b4 (unhide B3b))
  have X4 := hide o4.strs
  have R4 := hide ((b4.block _ (unhide L3)).trans (unhide N3).2)
  clear o4 b4 B3 B3b N3 L3
  go_wp2_with fail
  refine (unhide HIM (unhide HN) _ w4 (unhide X4)).mono ?_
  rintro e w5 ⟨rfl, b5⟩
  have B5 := hide (bl_st b5 (unhide B4))
  have X5 := hide ((unhide X4).below b5)
  have N5 := hide (new3 w5 x y z)
  have R5 := hide ((b5.block _ (Array.getElem?_eq_some_iff.1 (unhide R4)).1).trans (unhide R4))
  have hr5 := (((unhide N5).1.block _ (Array.getElem?_eq_some_iff.1 (unhide R5)).1).trans (unhide R5))
  have k5 := (unhide N5).2
  have a0 := row_cell (i := 0) hr5
  have a1 := row_cell (i := 1) hr5
  have a2 := row_cell (i := 2) hr5
  have e0 := row_cell (i := 0) k5
  have e1 := row_cell (i := 1) k5
  have e2 := row_cell (i := 2) k5
  have X5b := hide ((unhide X5).below (unhide N5).1)
  have B5b := hide (bl_st (unhide N5).1 (unhide B5))
  clear b5 B4 X4 X5 R4 R5 hr5 k5
  have KE := hide (fun W => eq17 x y z W)
  go_wp2_with fail
  generalize w5.alloc (.cells #[.int .i64 x, .int .i64 y, .int .i64 z] 29) = w5b at *
  generalize w5.heap.size = g5 at *
  refine (unhide KE _).mono ?_
  rintro e w6 ⟨rfl, b6⟩
  have B6 := hide (bl_st b6 (unhide B5b))
  have X6 := hide ((unhide X5b).below b6)
  clear b6 B5b X5b a0 a1 a2 e0 e1 e2 N5 KE
  go_wp2_with fail
  refine (unhide HTO (unhide HN) _ w6 ((unhide HV).below (unhide B6))).mono ?_
  rintro e w7 ⟨u7, rfl, o7, b7⟩
  have B7 := hide (bl_st b7 (unhide B6))
  have X7 := hide ((unhide X6).below b7)
  have U7 := hide o7.strs
  clear o7 b7 B6 X6
  go_wp2_with fail
  refine (unhide HEX (unhide HN) _ _ w7 (unhide X7) (unhide U7)).mono ?_
  rintro e w8 ⟨rfl, k8, hw8⟩
  have B8 := hide (show Below w.heap.size w w8 by rw [hw8]; exact below_drewN (unhide B7) k8)
  clear hw8 B7 X7 U7
  go_wp2
  go_ret
  exact ⟨rfl, unhide B8⟩
end Go.Proofs.Ytggiijlgdpkkfaa
