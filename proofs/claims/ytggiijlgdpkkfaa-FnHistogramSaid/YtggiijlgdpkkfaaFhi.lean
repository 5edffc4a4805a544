/- The law on histograms. -/
import Derived.Test.YtggiijlgdpkkfaaLh
import Derived.Test.YtggiijlgdpkkfaaFhm
import Derived.Test.YtggiijlgdpkkfaaApl
import Derived.Test.YtggiijlgdpkkfaaAof
import Derived.Test.YtggiijlgdpkkfaaExm
namespace Go.Proofs.Ytggiijlgdpkkfaa
open Go.RowKit Go.Maps
set_option maxHeartbeats 4000000
set_option maxRecDepth 20000
theorem drC_right {ts : List ByteArray} (h : ts.length ≤ 7) (h8 : ∀ t ∈ ts, t.size = 8) : drC ts = 0 := by
  unfold drC drB
  rw [if_neg (by omega), decide_eq_true (by omega), Bool.true_and, show ts.all isD = true from List.all_eq_true.2 (fun t ht => decide_eq_true (h8 t ht))]
  rfl
theorem hsP_right {ts : List ByteArray} (h : drC ts = 0) (m : Nat) : hsP ts m = ((hs ts m : Nat) : Int) := by unfold hsP; rw [if_pos h]
theorem row_base {w : World} {base base' : Nat} {e : TypeId} {size : Nat} {v : Value} {n : Nat} {xs : List Value} (h : w.ownsRow base e size v n xs) (hb : base' ≤ base) : w.ownsRow base' e size v n xs := by
  refine ⟨h.1, ?_⟩
  rcases h.2 with h | ⟨g, c, cur, hv, hg, h1⟩
  · exact .inl h
  · exact .inr ⟨g, c, cur, hv, Nat.le_trans hb hg, h1⟩
theorem bl_st2 {B : Nat} {a X Y : World} (hb : Below X.heap.size X Y) (h : Below B a X) (hB : B ≤ X.heap.size) : Below B a Y := h.trans (hb.mono hB)
theorem snoc_take (ts : List ByteArray) (j : Nat) (h : j < ts.length) : ts.take (j + 1) = ts.take j ++ [ts.getD j noS] := by
  rw [← List.take_append_getElem h, List.getD_eq_getElem?_getD, List.getElem?_eq_getElem h]; rfl
theorem law_fhist (w : World) (A : Option Addr) (n cap : Nat) (hn : n ≤ maxLen) (hc : codeAt w A n) (B : Option Addr) (m cb : Nat) (hm : m ≤ maxLen) (_ : codeAt w B m) :
    Calls Try.prog 3 #[.slice A n cap, .slice B m cb] w fun e w' => e = .returned (.bool true) ∧ Below w.heap.size w w' := by
  have KA := hide (accesses9 A n cap hn w hc)
  unfold maxLen at hn hm
  have n0 : (0 : Int) ≤ (n : Int) := by omega
  have n1 : (n : Int) ≤ 9223372036854775807 := by omega
  have m0 : (0 : Int) ≤ (m : Int) := by omega
  have m1 : (m : Int) ≤ 9223372036854775807 := by omega
  clear hn hm hc
  by_cases h1 : 1048576 < (n : Int)
  · clear KA
    go_enter Try.func3, Try.ntmps3
    go_wp2
    go_ret
    exact ⟨rfl, Below.refl _ _⟩
  have h1' : (n : Int) ≤ 1048576 := by omega
  by_cases h2 : 1048576 < (m : Int)
  · clear KA h1
    go_enter Try.func3, Try.ntmps3
    go_wp2
    go_ret
    exact ⟨rfl, Below.refl _ _⟩
  have h2' : (m : Int) ≤ 1048576 := by omega
  clear h1 h2 n1 m1
  go_enter Try.func3, Try.ntmps3
  go_wp2_with fail
  refine (unhide KA).mono ?_
  rintro e w1 ⟨r, ps, rfl, hl, hr, ho, hb⟩
  have B1 := hide hb
  have OA := hide ho.acs
  obtain ⟨ts, hts⟩ : ∃ ts, ts = ps.map Prod.fst := ⟨_, rfl⟩
  have hlt : ts.length = ps.length := by rw [hts, List.length_map]
  have HLT := hide hlt
  have HL := hide hl
  have H8 : Hid (∀ t ∈ ts, t.size = 8) := hide (fun t ht => by rw [hts] at ht; obtain ⟨p, hp, rfl⟩ := List.mem_map.1 ht; exact (hr p hp).1)
  have HAT : Hid (∀ i, i < ps.length → ts.getD i noS = dr ps i) := hide (fun i hi => by rw [hts, List.getD_eq_getElem?_getD, List.getElem?_map, List.getElem?_eq_getElem hi]; unfold dr; rw [List.getD_eq_getElem?_getD, List.getElem?_eq_getElem hi]; rfl)
  clear KA hts hlt hr ho hb
  obtain ⟨RA, rc, hre, hcl⟩ := unhide OA
  subst hre
  have l0 : (0 : Int) ≤ (ps.length : Int) := by omega
  have l1 : (ps.length : Int) ≤ 7 := by omega
  have HCL := hide hcl
  have BB : Hid (Below w1.heap.size w1 ((w1.alloc (.cells #[] 9)).alloc (.cells #[] 9))) := hide (bl_al (bl_al (Below.refl _ _)))
  have O1 : Hid (((w1.alloc (.cells #[] 9)).alloc (.cells #[] 9)).ownsRow w1.heap.size 9 1 (.slice (some ⟨w1.heap.size, 0, none⟩) 0 0) 0 (([] : List ByteArray).map Value.string)) := hide ((World.ownsRow_made w1 (e := 9) (size := 1) #[] 0 (Nat.le_refl _) (Nat.zero_le _) rfl).alloc _)
  have O2 : Hid (((w1.alloc (.cells #[] 9)).alloc (.cells #[] 9)).ownsRow w1.heap.size 9 1 (.slice (some ⟨w1.heap.size + 1, 0, none⟩) 0 0) 0 (([] : List ByteArray).map Value.string)) := hide (by have := World.ownsRow_made (w1.alloc (.cells #[] 9)) (base := w1.heap.size) (e := 9) (size := 1) #[] 0 (by simp) (Nat.zero_le _) rfl; simpa using this)
  clear hcl hl
  go_wp2
  generalize hq : w1.heap.size = q at *
  have HQ := hide hq
  clear hq
  go_loopw [6, 7, 8] (fun o t i wr => ∃ (j g c g2 c2 : Nat), j ≤ ps.length ∧ i = .int .i64 j ∧ o = .slice (some ⟨g, 0, none⟩) j c ∧ t = .slice (some ⟨g2, 0, none⟩) j c2 ∧ g ≠ g2 ∧ wr.ownsRow q 9 1 (.slice (some ⟨g, 0, none⟩) j c) j ((ts.take j).map Value.string) ∧ wr.ownsRow q 9 1 (.slice (some ⟨g2, 0, none⟩) j c2) j ((ts.take j).reverse.map Value.string) ∧ Below q w1 wr) (fun _ _ i _ => ps.length - (intOf i).toNat)
  case atStart => exact ⟨0, q, 0, q + 1, 0, by omega, rfl, rfl, rfl, by omega, unhide O1, unhide O2, unhide BB⟩
  case round =>
    obtain ⟨j, g, c, g2, c2, hj, rfl, rfl, rfl, hne, ho1, ho2, hbl⟩ := hrel
    by_cases hlt : j < ps.length
    · obtain ⟨b, off, hA, hbb, hcell⟩ := unhide HCL (by omega)
      subst hA
      have hbq : b < q := by have := unhide HQ; omega
      have q1 : (j : Int) < (ps.length : Int) := by omega
      have q0 : (0 : Int) ≤ (j : Int) := by omega
      have HX := hide (unhide HAT j hlt)
      have HP : Hid (∀ W, Below q w1 W → W.cell? ⟨b, off + j * 2, none⟩ = some (.string (ts.getD j noS))) := hide (fun W hW => by rw [unhide HX]; exact (World.cell?_of_block (hW.block b hbq)).trans (hcell j hlt).c0)
      have HT := hide (snoc_take ts j (by rw [unhide HLT]; exact hlt))
      have HJ := hide hlt
      have p0 := unhide HP wr hbl
      have hg := ho1.lt g rfl
      have hg2 := ho2.lt g2 rfl
      have hlen : (ts.take j).length = j := by rw [List.length_take, unhide HLT]; omega
      clear hcell hbb hlt hj O1 O2 BB HAT
      generalize ts.getD j noS = x at *
      have os := one_str wr x
      have hb1 : Below q w1 (wr.alloc (.cells #[.string x] 9)) := hbl.alloc (by omega) _
      go_wp2_with (first
        | (at_builtin; refine wpList_append_strsL _ rfl _ _ rfl q j (.slice (some ⟨g, 0, none⟩) j c) (ts.take j) rfl (ho1.alloc _) ⟨g, c, rfl⟩ _ [x] rfl os (by simp; omega) (by simp; omega) ?_; intro g3 c3 w3 ho3 hg3 hat3; have hb3 := hb1.grown hg3 (by simp; omega) (fun k hk => by have e : g = k := Option.some.inj hk; omega); have p3 := unhide HP w3 hb3; have ht3 := (ho2.alloc (.cells #[.string x] 9)).kept hg3 (.inr (by intro e; have e2 : g2 = g := Option.some.inj e; omega)); have lt3 := ho3.lt g3 rfl; have or4 := one_row w3 x; have hs3 := hg3.size; have st4 := (own_strs (ht3.alloc (.cells #[.string x] 9)) ⟨g2, c2, rfl⟩).strs)
        | (at_builtin; refine wpList_append_strsL _ rfl _ _ rfl w3.heap.size 1 (.slice (some ⟨w3.heap.size, 0, none⟩) 1 1) [x] rfl or4 ⟨_, _, rfl⟩ (.slice (some ⟨g2, 0, none⟩) j c2) (ts.take j).reverse rfl st4 (by simp; omega) (by simp) ?_; intro g4 c4 w4 ho4 hg4 hat4)
        | go_in)
      go_roundw
      case rel =>
        have e4 : g4 = w3.heap.size ∨ g4 = w3.heap.size + 1 := by
          rcases hat4 with h | h
          · exact .inl (Option.some.inj h).symm
          · right; simpa using h
        refine ⟨j + 1, g3, c3, g4, c4, unhide HJ, by go_num, rfl, by rw [Nat.add_comm], by omega, ?_, ?_, ?_⟩
        · rw [unhide HT]
          exact (ho3.alloc _).kept hg4 (.inr (by intro e; have e2 : g3 = w3.heap.size := Option.some.inj e; omega))
        · rw [unhide HT, List.reverse_append]
          have := row_base (base' := q) ho4 (by omega)
          rw [List.length_reverse, hlen, Nat.add_comm] at this
          exact this
        · exact (hb3.alloc (by omega) _).grown hg4 (by simp; omega) (fun k hk => by have e : w3.heap.size = k := Option.some.inj hk; omega)
      case measure => have := unhide HJ; simp [intOf]; omega
    · obtain rfl : j = ps.length := by omega
      have e0 : ts.take ps.length = ts := by rw [← unhide HLT, List.take_length]
      rw [e0] at ho1 ho2
      have OD := hide (own_strs ho1 ⟨g, c, rfl⟩)
      have OT := hide (own_strs ho2 ⟨g2, c2, rfl⟩)
      have d1 := drC_right (ts := ts) (by rw [unhide HLT]; exact unhide HL) (unhide H8)
      have d2 := drC_right (ts := ts.reverse) (by rw [List.length_reverse, unhide HLT]; exact unhide HL) (fun t ht => unhide H8 t (List.mem_reverse.1 ht))
      have K1 : Hid (∀ u W, strsV W u ts → Calls Try.prog 10 #[u] W fun e w' => e = .returned (.tuple #[hV ((hs ts 1 : Nat) : Int) ((hs ts 2 : Nat) : Int) ((hs ts 3 : Nat) : Int), .int .i64 0]) ∧ Below W.heap.size W w') := hide (fun u W hu => by
        have := hist10 u ts W hu (by rw [unhide HLT]; have := unhide HL; omega)
        unfold outH at this
        rw [d1, hsP_right d1, hsP_right d1, hsP_right d1] at this
        exact this)
      have K2 : Hid (∀ u W, strsV W u ts.reverse → Calls Try.prog 10 #[u] W fun e w' => e = .returned (.tuple #[hV ((hs ts 1 : Nat) : Int) ((hs ts 2 : Nat) : Int) ((hs ts 3 : Nat) : Int), .int .i64 0]) ∧ Below W.heap.size W w') := hide (fun u W hu => by
        have := hist10 u ts.reverse W hu (by rw [List.length_reverse, unhide HLT]; have := unhide HL; omega)
        unfold outH at this
        rw [d2, hsP_right d2, hsP_right d2, hsP_right d2, hs_perm (List.reverse_perm ts), hs_perm (List.reverse_perm ts), hs_perm (List.reverse_perm ts)] at this
        exact this)
      have K3 : Hid (∀ u W, strsC W u ts → Calls Try.prog 11 #[u] W fun e w' => e = .returned (.tuple #[hV ((hs ts 1 : Nat) : Int) ((hs ts 2 : Nat) : Int) ((hs ts 3 : Nat) : Int), .int .i64 0]) ∧ Below W.heap.size W w') := hide (fun u W hu => by
        have := hist11 u ts W hu (by rw [unhide HLT]; have := unhide HL; omega)
        unfold outH at this
        rw [d1, hsP_right d1, hsP_right d1, hsP_right d1] at this
        exact this)
      have hsm := hs_sum ts
      rw [unhide HLT] at hsm
      have hl7 := unhide HL
      have BX := hide hbl
      clear hlt hj ho1 ho2 e0 d1 d2 O1 O2 BB hbl HAT
      generalize hs ts 1 = x at *
      generalize hs ts 2 = y at *
      generalize hs ts 3 = z at *
      have x0 : (0 : Int) ≤ (x : Int) := by omega
      have x1 : (x : Int) ≤ 7 := by omega
      have y0 : (0 : Int) ≤ (y : Int) := by omega
      have y1 : (y : Int) ≤ 7 := by omega
      have z0 : (0 : Int) ≤ (z : Int) := by omega
      have z1 : (z : Int) ≤ 7 := by omega
      have zz : (x : Int) + 2 * (y : Int) + 3 * (z : Int) ≤ (ps.length : Int) := by omega
      have zy : (z : Int) = 0 → (ps.length : Int) = (x : Int) + 2 * (y : Int) := by omega
      have HSM := hide hsm
      clear hsm hl7
      go_wp2_with fail
      refine (unhide K1 _ _ (unhide OD).strs).mono ?_
      rintro e w2 ⟨rfl, b2⟩
      have OD2 := hide ((unhide OD).below b2)
      have OT2 := hide ((unhide OT).below b2)
      have BX2 := hide (bl_st2 b2 (unhide BX) (by have := unhide HQ; have := (unhide BX).size; omega))
      have N2 := hide (new3 w2 (x : Int) (y : Int) (z : Int))
      clear OD OT BX b2
      go_wp2_with fail
      generalize w2.alloc (.cells #[.int .i64 (x : Int), .int .i64 (y : Int), .int .i64 (z : Int)] 29) = w2b at *
      have OD3 := hide ((unhide OD2).below (unhide N2).1)
      have OT3 := hide ((unhide OT2).below (unhide N2).1)
      have BX3 := hide (bl_st2 (unhide N2).1 (unhide BX2) (by have := unhide HQ; have := (unhide BX2).size; omega))
      have R9 := hide (unhide N2).2
      generalize w2.heap.size = g9 at *
      clear OD2 OT2 BX2 N2
      refine (unhide K2 _ _ (unhide OT3).strs).mono ?_
      rintro e w3 ⟨rfl, b3⟩
      have OD4 := hide ((unhide OD3).below b3)
      have BX4 := hide (bl_st2 b3 (unhide BX3) (by have := unhide HQ; have := (unhide BX3).size; omega))
      have R9b := hide ((b3.block _ (Array.getElem?_eq_some_iff.1 (unhide R9)).1).trans (unhide R9))
      have N3 := hide (new3 w3 (x : Int) (y : Int) (z : Int))
      clear OD3 OT3 BX3 R9 b3 K1 K2
      go_wp2_with fail
      generalize w3.alloc (.cells #[.int .i64 (x : Int), .int .i64 (y : Int), .int .i64 (z : Int)] 29) = w3b at *
      have OD5 := hide ((unhide OD4).below (unhide N3).1)
      have BX5 := hide (bl_st2 (unhide N3).1 (unhide BX4) (by have := unhide HQ; have := (unhide BX4).size; omega))
      have R9c := hide (((unhide N3).1.block _ (Array.getElem?_eq_some_iff.1 (unhide R9b)).1).trans (unhide R9b))
      have R11 := hide (unhide N3).2
      generalize w3.heap.size = g11 at *
      clear OD4 BX4 N3 R9b
      refine (unhide K3 _ _ (unhide OD5).strsC).mono ?_
      rintro e w4 ⟨rfl, b4⟩
      have BX6 := hide (bl_st2 b4 (unhide BX5) (by have := unhide HQ; have := (unhide BX5).size; omega))
      have R9d := hide ((b4.block _ (Array.getElem?_eq_some_iff.1 (unhide R9c)).1).trans (unhide R9c))
      have R11b := hide ((b4.block _ (Array.getElem?_eq_some_iff.1 (unhide R11)).1).trans (unhide R11))
      have N4 := hide (new3 w4 (x : Int) (y : Int) (z : Int))
      clear OD5 BX5 R9c R11 b4 K3
      have hr9 := unhide R9d
      have hr11 := unhide R11b
      have a0 : w4.cell? ⟨g9, 0, none⟩ = some (.int .i64 (x : Int)) := row_cell hr9
      have a1 : w4.cell? ⟨g9, 1, none⟩ = some (.int .i64 (y : Int)) := row_cell hr9
      have a2 : w4.cell? ⟨g9, 2, none⟩ = some (.int .i64 (z : Int)) := row_cell hr9
      have b0 : w4.cell? ⟨g11, 0, none⟩ = some (.int .i64 (x : Int)) := row_cell hr11
      have b1 : w4.cell? ⟨g11, 1, none⟩ = some (.int .i64 (y : Int)) := row_cell hr11
      have b2 : w4.cell? ⟨g11, 2, none⟩ = some (.int .i64 (z : Int)) := row_cell hr11
      have l9 : g9 < w4.heap.size := (Array.getElem?_eq_some_iff.1 hr9).1
      have l11 : g11 < w4.heap.size := (Array.getElem?_eq_some_iff.1 hr11).1
      have BF : Hid (Below w.heap.size w (w4.alloc (.cells #[.int .i64 (x : Int), .int .i64 (y : Int), .int .i64 (z : Int)] 29))) := hide (bl_st (unhide N4).1 (bl_st (by rw [unhide HQ]; exact unhide BX6) (unhide B1)))
      clear hr9 hr11 N4 R9d R11b BX6
      rcases Nat.eq_zero_or_pos z with hz | hz
      · subst hz
        have e5 : (ps.length : Int) = (x : Int) + 2 * (y : Int) := by omega
        go_wp2
        go_ret
        exact ⟨ret_bool (by rw [beq_iff_eq]; omega), unhide BF⟩
      · have hz2 : (0 : Int) < (z : Int) := by omega
        go_wp2
        go_ret
        exact ⟨rfl, unhide BF⟩
end Go.Proofs.Ytggiijlgdpkkfaa
