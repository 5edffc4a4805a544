/- The law of WrapReply, walked. -/
import Derived.Test.YtncplefjokbbjaaDoorSxLaw
import Derived.Test.YtncplefjokbbjaaDoorWr
import Derived.Test.YtncplefjokbbjaaDoorArg
namespace Go.Proofs.YtncplefjokbbjaaDoor
open Go.RowKit
set_option maxHeartbeats 4000000
set_option maxRecDepth 20000
theorem wr_law (key : ByteArray) (xs : List Int) (v : Value) (w : World) (hv : bytesV w v xs) (t : TypeId) (fr : Nat × Nat) (hq : w.heap[0]? = some (.cells qArr t fr)) :
    Calls Tryd.prog 3 #[.string key, v] w fun e w' => e = .returned (.bool true) ∧ Below w.heap.size w w' := by
  have h0 : 0 < w.heap.size := (Array.getElem?_eq_some_iff.1 hq).1
  have hA : ∃ A cap, v = .slice A xs.length cap := by obtain ⟨A, cap, h, _⟩ := hv; exact ⟨A, cap, h⟩
  obtain ⟨A, cap, hAe⟩ := hA
  have hvW := fun W (hb : Below w.heap.size w W) => hv.below hb
  have hcopy := fun (W : World) (hb : Below w.heap.size w W) (hn : xs.length ≤ 2097152) => copy15 v xs W (hvW W hb) hn
  have hqW := fun W (hb : Below w.heap.size w W) => (hb.block 0 h0).trans hq
  have hspec := fun u W (hu : bytesV W u xs) => spec_WR key xs u W hu
  have himpl := fun u W (hu : bytesV W u xs) (hb : Below w.heap.size w W) => impl_WR key xs u W hu t fr (hqW W hb)
  have hLl := wrL_len key xs
  have HCO := hide hcopy
  have HSP := hide hspec
  have HIM := hide himpl
  clear hq h0 hvW hqW hcopy hspec himpl hv
  by_cases h1 : 1048576 < key.size
  · have h1' : (1048576 : Int) < (key.size : Int) := by omega
    clear h1
    go_enter Tryd.func3, Tryd.ntmps3
    go_wp2
    go_ret
    exact ⟨rfl, Below.refl _ _⟩
  have h1' : (key.size : Int) ≤ 1048576 := by omega
  clear h1
  by_cases h3 : 1048576 < xs.length
  · have h3' : (1048576 : Int) < (xs.length : Int) := by omega
    subst hAe
    clear h3
    go_enter Tryd.func3, Tryd.ntmps3
    go_wp2
    go_ret
    exact ⟨rfl, Below.refl _ _⟩
  have h3' : (xs.length : Int) ≤ 1048576 := by omega
  have hn : Hid (xs.length ≤ 2097152) := hide (by omega)
  have hLn : Hid ((wrL key xs).length ≤ 2097152) := hide (by omega)
  clear h3 hLl
  generalize wrC key xs.length = C at *
  generalize wrL key xs = L at *
  have n0 : (0 : Int) ≤ (xs.length : Int) := by omega
  have l0 : (0 : Int) ≤ (L.length : Int) := by omega
  subst hAe
  go_enter Tryd.func3, Tryd.ntmps3
  have hn' : Hid (xs.length ≤ 2097152) := hn
  go_wp2_with fail
  -- the first copy
  refine (unhide HCO w (Below.refl _ _) (unhide hn)).mono ?_
  rintro e w1 ⟨r1, rfl, o1, b1⟩
  have B1 := hide b1
  have O1 := hide o1
  clear o1 b1
  go_wp2_with fail
  -- the specification
  refine (unhide HSP r1 w1 (unhide O1).bytes).mono ?_
  rintro e w2 ⟨gw, rfl, o2, b2⟩
  have B2 := hide ((unhide B1).trans (b2.mono (unhide B1).size))
  have SW := hide o2.within
  have L12 := hide (unhide B1).size
  have L2 := hide b2.size
  clear o2 b2 O1
  go_wp2_with fail
  -- what is handed in
  refine (unhide HCO w2 (unhide B2) (unhide hn)).mono ?_
  rintro e w3 ⟨x3, rfl, o3, b3⟩
  have B3 := hide ((unhide B2).trans (b3.mono (unhide B2).size))
  have SW3 := hide ((unhide SW).below b3)
  have SX3 := hide o3.within
  have L3 := hide b3.size
  clear o3 b3 SW
  go_wp2_with fail
  -- the program
  refine (unhide HIM x3 w3 (unhide SX3).bytes (unhide B3)).mono ?_
  rintro e w4 ⟨g0, rfl, o4, b4⟩
  have B4 := hide ((unhide B3).trans (b4.mono (unhide B3).size))
  have SW4 := hide ((unhide SW3).below b4)
  have SX4 := hide ((unhide SX3).below b4)
  have SG4 := hide o4.within
  have L4 := hide b4.size
  clear o4 b4 SW3 SX3
  go_wp2_with fail
  refine (eq16 g0 gw L w4 (unhide SG4).bytes (unhide SW4).bytes (unhide hLn)).mono ?_
  rintro e w5 ⟨rfl, k5, rfl⟩
  have b5 := below_drewN (Below.refl w4.heap.size w4) k5
  have B5 := hide ((unhide B4).trans (b5.mono (unhide B4).size))
  have SW5 := hide ((unhide SW4).below b5)
  have SX5 := hide ((unhide SX4).below b5)
  have SG5 := hide ((unhide SG4).below b5)
  have L5 := hide b5.size
  generalize w4.drewN k5 = w5 at *
  clear b5 SW4 SX4 SG4
  go_wp2_with fail
  -- what was handed in is as it was
  refine (unhide HCO w5 (unhide B5) (unhide hn)).mono ?_
  rintro e w6 ⟨r6, rfl, o6, b6⟩
  have B6 := hide ((unhide B5).trans (b6.mono (unhide B5).size))
  have SW6 := hide ((unhide SW5).below b6)
  have SX6 := hide ((unhide SX5).below b6)
  have SG6 := hide ((unhide SG5).below b6)
  have SR6 := hide o6.bytes
  clear o6 b6 SW5 SX5 SG5
  go_wp2_with fail
  refine (eq16 x3 r6 xs w6 (unhide SX6).bytes (unhide SR6) (unhide hn')).mono ?_
  rintro e w7 ⟨rfl, k7, rfl⟩
  have b7 := below_drewN (Below.refl w6.heap.size w6) k7
  have B7 := hide ((unhide B6).trans (b7.mono (unhide B6).size))
  have SW7 := hide ((unhide SW6).below b7)
  have SX7 := hide ((unhide SX6).below b7)
  have SG7 := hide ((unhide SG6).below b7)
  generalize w6.drewN k7 = w7 at *
  clear b7 SW6 SX6 SG6 SR6
  go_wp2_with fail
  -- what was handed in is marked
  refine (mark17 _ x3 xs w7 (unhide SX7).ownB (unhide hn')).mono ?_
  rintro e w8 ⟨rfl, _, t8⟩
  have B8 := hide (below_touch (unhide B7) t8 (unhide SX7).lies (unhide B2).size)
  have SW8 := hide ((unhide SW7).touch t8 (unhide SX7).lies (.inl (Nat.le_refl _)))
  have SG8 := hide ((unhide SG7).touch t8 (unhide SX7).lies (.inr (Nat.le_refl _)))
  clear t8 SW7 SX7 SG7
  go_wp2_with fail
  refine (eq16 g0 gw L w8 (unhide SG8).bytes (unhide SW8).bytes (unhide hLn)).mono ?_
  rintro e w9 ⟨rfl, k9, rfl⟩
  have b9 := below_drewN (Below.refl w8.heap.size w8) k9
  have B9 := hide ((unhide B8).trans (b9.mono (unhide B8).size))
  have SW9 := hide ((unhide SW8).below b9)
  have SG9 := hide ((unhide SG8).below b9)
  generalize w8.drewN k9 = w9 at *
  clear b9 SW8 SG8
  go_wp2_with fail
  -- the answer is marked
  refine (mark17 _ g0 L w9 (unhide SG9).ownB (unhide hLn)).mono ?_
  rintro e w10 ⟨rfl, o10, t10⟩
  have B10 := hide (below_touch (unhide B9) t10 (unhide SG9).lies (unhide B3).size)
  have SW10 := hide ((unhide SW9).touch t10 (unhide SG9).lies (.inl (unhide L3)))
  have SM10 := hide o10.within
  clear t10 o10 SW9 SG9
  go_wp2_with fail
  refine (held18 g0 L.length w10 (unhide SM10).bytes (unhide hLn)).mono ?_
  rintro e w11 ⟨rfl, rfl⟩
  go_wp2_with fail
  -- another call
  refine (unhide HCO w11 (unhide B10) (unhide hn)).mono ?_
  rintro e w12 ⟨r12, rfl, o12, b12⟩
  have B12 := hide ((unhide B10).trans (b12.mono (unhide B10).size))
  have SW12 := hide ((unhide SW10).below b12)
  have SM12 := hide ((unhide SM10).below b12)
  have SR12 := hide o12.bytes
  clear o12 b12 SW10 SM10
  go_wp2_with fail
  refine (unhide HIM r12 w12 (unhide SR12) (unhide B12)).mono ?_
  rintro e w13 ⟨h13, rfl, o13, b13⟩
  have B13 := hide ((unhide B12).trans (b13.mono (unhide B12).size))
  have SW13 := hide ((unhide SW12).below b13)
  have SM13 := hide ((unhide SM12).below b13)
  have SH13 := hide o13.bytes
  clear o13 b13 SW12 SM12 SR12
  go_wp2_with fail
  refine (eq16 h13 gw L w13 (unhide SH13) (unhide SW13).bytes (unhide hLn)).mono ?_
  rintro e w14 ⟨rfl, k14, rfl⟩
  have b14 := below_drewN (Below.refl w13.heap.size w13) k14
  have B14 := hide ((unhide B13).trans (b14.mono (unhide B13).size))
  have SM14 := hide ((unhide SM13).below b14)
  generalize w13.drewN k14 = w14 at *
  clear b14 SW13 SM13 SH13
  go_wp2_with fail
  refine (held18 g0 L.length w14 (unhide SM14).bytes (unhide hLn)).mono ?_
  rintro e w15 ⟨rfl, rfl⟩
  go_wp2
  go_ret
  exact ⟨rfl, unhide B14⟩
theorem wr_law_at (key : ByteArray) (A : Option Addr) (n cap : Nat) (w : World) (hc : codeAt w A n) (t : TypeId) (fr : Nat × Nat) (hq : w.heap[0]? = some (.cells qArr t fr)) :
    Calls Tryd.prog 3 #[.string key, .slice A n cap] w fun e w' => e = .returned (.bool true) ∧ Below w.heap.size w w' := by
  obtain ⟨xs, _, hb⟩ := bytes_of_code cap hc
  exact wr_law key xs _ w hb t fr hq
end Go.Proofs.YtncplefjokbbjaaDoor
