/- The law of OpenReply, walked. -/
import Derived.Test.YtncplefjokbbjaaDoorOs
namespace Go.Proofs.YtncplefjokbbjaaDoor
open Go.RowKit
set_option maxHeartbeats 4000000
set_option maxRecDepth 20000
def marksK (k0 : Int) (n : Nat) : List Int := (List.range n).map fun i : Nat => (k0 + (i : Int)) % 256
theorem marksK_len (k0 : Int) (n : Nat) : (marksK k0 n).length = n := by simp [marksK]
theorem marksK_at (k0 : Int) (n i : Nat) (h : i < n) : (marksK k0 n).getD i 0 = (k0 + (i : Int)) % 256 := by
  rw [List.getD_eq_getElem?_getD, marksK, List.getElem?_map, List.getElem?_range h]; rfl
theorem marksK_isB (k0 : Int) (n : Nat) : isB (marksK k0 n) := by
  intro x hx
  obtain ⟨i, _, rfl⟩ := List.mem_map.1 hx
  omega
theorem mark17k (k0 : Int) (k00 : 0 ≤ k0) (k01 : k0 ≤ 4194304) (base : Nat) (v : Value) (xs : List Int) (w : World) (hv : ownB base w v xs) (hn : xs.length ≤ 2097152) :
    Calls Tryd.prog 9 #[v, .int .i64 k0] w fun e w' => e = .returned (.int .i64 (k0 + (xs.length : Int))) ∧ ownB base w' v (marksK k0 xs.length) ∧ Touch v w w' := by
  obtain ⟨hB, ⟨rfl, rfl⟩ | ⟨g, cap, rest, rfl, hg, hc, hcp⟩⟩ := hv
  · go_enter Tryd.func9, Tryd.ntmps9
    go_wp2
    refine wp_loop_rounds 1 ?_
    rw [rounds_succ]; go_wp2
    go_ret
    exact ⟨by simp, ⟨marksK_isB _ _, .inl ⟨rfl, rfl⟩⟩, ⟨rfl, rfl, rfl, rfl, fun _ _ => rfl⟩⟩
  · obtain ⟨n, hnx⟩ : ∃ n, n = xs.length := ⟨_, rfl⟩
    rw [← hnx] at hn hcp ⊢
    have HCP := hide hcp
    have HN := hide hnx
    have ho : Hid (w.heap[g]? = some (rowObj 5 .u8 (mixL (marksK k0 n) xs 0) rest)) := hide (by rw [mixL_zero]; exact hc)
    have hlt0 := hide (Array.getElem?_eq_some_iff.1 hc).1
    have HG := hide hg
    have hrr : Hid (w = rowL w g 5 .u8 (mixL (marksK k0 n) xs 0) rest) := hide (row_same w g 5 .u8 _ rest (unhide ho)).symm
    clear hc hB hnx hg hcp
    go_enter Tryd.func9, Tryd.ntmps9
    go_wp2
    go_loopw [1, 5] (fun k i wr => ∃ j : Nat, j ≤ n ∧ i = .int .i64 j ∧ k = .int .i64 (k0 + (j : Int)) ∧ wr = rowL w g 5 .u8 (mixL (marksK k0 n) xs j) rest) (fun _ i _ => n - (intOf i).toNat)
    case atStart => exact ⟨0, by omega, rfl, by simp, unhide hrr⟩
    case round =>
      clear hrr ho
      obtain ⟨j, hj, rfl, rfl, rfl⟩ := hrel
      by_cases hlt : j < n
      · have q1 : (j : Int) < (n : Int) := by omega
        have q0 : (0 : Int) ≤ (j : Int) := by omega
        have hl : (mixL (marksK k0 n) xs j).length = n := by rw [mixL_len _ _ _ (by rw [marksK_len]; exact unhide HN)]; exact (unhide HN).symm
        have p1 := cell_row w g 5 .u8 (mixL (marksK k0 n) xs j) rest j (by omega) (unhide hlt0)
        have p2 := frozen_row w g 5 .u8 (mixL (marksK k0 n) xs j) rest j (unhide hlt0)
        have p3 := set_row w g 5 .u8 (mixL (marksK k0 n) xs j) rest j ((k0 + (j : Int)) % 256) (by omega) (unhide hlt0)
        rw [← marksK_at k0 n j hlt, mixL_succ _ _ _ (by rw [marksK_len]; exact unhide HN) (by rw [← unhide HN]; exact hlt), marksK_at k0 n j hlt] at p3
        have HJ := hide hlt
        clear hl hlt hj
        generalize mixL (marksK k0 n) xs j = m0 at *
        go_wp2
        go_roundw
        case rel => exact ⟨j + 1, unhide HJ, by go_num, by rw [show k0 + ((j + 1 : Nat) : Int) = k0 + (j : Int) + 1 by omega], rfl⟩
        case measure => have := unhide HJ; simp [intOf]; omega
      · obtain rfl : j = n := by omega
        have hm := mixL_all (marksK k0 j) xs (by rw [marksK_len]; exact unhide HN)
        rw [← unhide HN] at hm
        rw [hm]
        clear hm
        go_wp2
        go_ret
        refine ⟨rfl, ⟨marksK_isB _ _, .inr ⟨g, cap, rest, by rw [marksK_len], unhide HG, get_row _ _ _ _ _ _ (unhide hlt0), by rw [marksK_len]; exact unhide HCP⟩⟩, ⟨rfl, rfl, rfl, size_row _ _ _ _ _ _, fun k hk => get_row_other _ _ _ _ _ _ _ (fun e => hk (by rw [e]; rfl))⟩⟩
theorem Touch.toS {v : Value} {w w' : World} (h : Touch v w w') : TouchS v w w' := ⟨h.os, h.tape, h.output, by rw [h.size]; exact Nat.le_refl _, fun k _ hk => h.block k hk⟩
theorem or_law (ts : List ByteArray) (u : Value) (xs : List Int) (v : Value) (w : World) (hu : strsV w u ts) (hl : ts.length ≤ maxLen) (hs : ∀ t ∈ ts, t.size ≤ maxLen) (hv : bytesV w v xs) (t : TypeId) (fr : Nat × Nat) (hq : w.heap[0]? = some (.cells qArr t fr)) :
    Calls Tryd.prog 4 #[u, v] w fun e w' => e = .returned (.bool true) ∧ Below w.heap.size w w' := by
  have h0 : 0 < w.heap.size := (Array.getElem?_eq_some_iff.1 hq).1
  have hA : ∃ A cap, v = .slice A xs.length cap := by obtain ⟨A, cap, h, _⟩ := hv; exact ⟨A, cap, h⟩
  obtain ⟨A, cap, hAe⟩ := hA
  have hA2 : ∃ A cap, u = .slice A ts.length cap := by obtain ⟨A, cap, h, _⟩ := hu; exact ⟨A, cap, h⟩
  obtain ⟨A2, cap2, hA2e⟩ := hA2
  have hsz := hide (sz27 u ts w hu hl hs)
  have HCO := hide (fun (W : World) (hb : Below w.heap.size w W) (hn : xs.length ≤ 2097152) => copy15 v xs W (hv.below hb) hn)
  have HTO := hide (fun (W : World) (hb : Below w.heap.size w W) (hn : ts.length ≤ 2097152) => to30 u ts W (hu.below hb) hn)
  have HSP := hide (fun a b W (ha : strsV W a ts) (hb : bytesV W b xs) (h1 : ts.length ≤ 2097152) (h2 : xs.length ≤ 2097152) => spec_OR ts a xs b W ha hb h1 h2)
  have HIM := hide (fun a b W (ha : strsV W a ts) (hb : bytesV W b xs) (h1 : ts.length ≤ 2097152) (h2 : xs.length ≤ 2097152) (hB : Below w.heap.size w W) => impl_OR ts a xs b W ha hb h1 h2 t fr ((hB.block 0 h0).trans hq))
  have hLl := orL_len ts xs
  clear hq h0 hv hu hl hs
  by_cases h3 : 1048576 < xs.length
  · have h3' : (1048576 : Int) < (xs.length : Int) := by omega
    subst hAe hA2e
    clear h3
    go_enter Tryd.func4, Tryd.ntmps4
    go_wp2
    go_ret
    exact ⟨rfl, Below.refl _ _⟩
  have h3' : (xs.length : Int) ≤ 1048576 := by omega
  have hn : Hid (xs.length ≤ 2097152) := hide (by omega)
  have hLn : Hid ((orL ts xs).length ≤ 2097152) := hide (by omega)
  clear h3 hLl
  generalize orC ts xs.length = C at *
  generalize orL ts xs = L at *
  have n0 : (0 : Int) ≤ (xs.length : Int) := by omega
  have l0 : (0 : Int) ≤ (L.length : Int) := by omega
  have t0 : (0 : Int) ≤ (ts.length : Int) := by omega
  subst hAe hA2e
  go_enter Tryd.func4, Tryd.ntmps4
  go_wp2_with fail
  refine (unhide hsz).mono ?_
  rintro e w0 ⟨z, rfl, hz, hw⟩
  have hw' := hw.symm
  subst hw'
  clear hsz
  by_cases hneg : z < 0
  · clear hz
    go_wp2
    go_ret
    exact ⟨rfl, Below.refl _ _⟩
  have hge : 0 ≤ z := by omega
  have htn : ts.length ≤ 1048576 := by rcases hz with h | h <;> omega
  have t1 : (ts.length : Int) ≤ 1048576 := by omega
  have ht : Hid (ts.length ≤ 2097152) := hide (by omega)
  clear hz hneg htn
  go_wp2_with fail
  -- the first copies
  refine (unhide HTO w (Below.refl _ _) (unhide ht)).mono ?_
  rintro e wa ⟨ra, rfl, oa, ba⟩
  have BA := hide ba
  have OA := hide oa
  clear oa ba
  go_wp2_with fail
  refine (unhide HCO wa (unhide BA) (unhide hn)).mono ?_
  rintro e w1 ⟨r1, rfl, o1, b1⟩
  have B1 := hide ((unhide BA).trans (b1.mono (unhide BA).size))
  have O1 := hide o1.bytes
  have OA1 := hide ((unhide OA).below b1).strs
  clear o1 b1 OA
  go_wp2_with fail
  -- the specification
  refine (unhide HSP ra r1 w1 (unhide OA1) (unhide O1) (unhide ht) (unhide hn)).mono ?_
  rintro e w2 ⟨gw, rfl, o2, b2⟩
  have B2 := hide ((unhide B1).trans (b2.mono (unhide B1).size))
  have SW := hide o2.within
  clear o2 b2 O1 OA1
  go_wp2_with fail
  -- what is handed in
  refine (unhide HTO w2 (unhide B2) (unhide ht)).mono ?_
  rintro e wb ⟨x0, rfl, ob, bb⟩
  have BB := hide ((unhide B2).trans (bb.mono (unhide B2).size))
  have SWB := hide ((unhide SW).below bb)
  have SKB := hide ob
  have LB := hide bb.size
  clear ob bb SW
  go_wp2_with fail
  refine (unhide HCO wb (unhide BB) (unhide hn)).mono ?_
  rintro e w3 ⟨x3, rfl, o3, b3⟩
  have B3 := hide ((unhide BB).trans (b3.mono (unhide BB).size))
  have SW3 := hide ((unhide SWB).below b3)
  have SK3 := hide ((unhide SKB).below b3)
  have SX3 := hide o3.within
  have L3 := hide b3.size
  clear o3 b3 SWB SKB
  go_wp2_with fail
  -- the program
  refine (unhide HIM x0 x3 w3 (unhide SK3).strs (unhide SX3).bytes (unhide ht) (unhide hn) (unhide B3)).mono ?_
  rintro e w4 ⟨g0, rfl, o4, b4⟩
  have B4 := hide ((unhide B3).trans (b4.mono (unhide B3).size))
  have SW4 := hide ((unhide SW3).below b4)
  have SK4 := hide ((unhide SK3).below b4)
  have SX4 := hide ((unhide SX3).below b4)
  have SG4 := hide o4.within
  clear o4 b4 SW3 SK3 SX3
  go_wp2_with fail
  refine (eq16 g0 gw L w4 (unhide SG4).bytes (unhide SW4).bytes (unhide hLn)).mono ?_
  rintro e w5 ⟨rfl, k5, rfl⟩
  have b5 := below_drewN (Below.refl w4.heap.size w4) k5
  have B5 := hide ((unhide B4).trans (b5.mono (unhide B4).size))
  have SW5 := hide ((unhide SW4).below b5)
  have SK5 := hide ((unhide SK4).below b5)
  have SX5 := hide ((unhide SX4).below b5)
  have SG5 := hide ((unhide SG4).below b5)
  generalize w4.drewN k5 = w5 at *
  clear b5 SW4 SK4 SX4 SG4
  go_wp2_with fail
  -- what was handed in is as it was
  refine (unhide HTO w5 (unhide B5) (unhide ht)).mono ?_
  rintro e w6 ⟨r6, rfl, o6, b6⟩
  have B6 := hide ((unhide B5).trans (b6.mono (unhide B5).size))
  have SW6 := hide ((unhide SW5).below b6)
  have SK6 := hide ((unhide SK5).below b6)
  have SX6 := hide ((unhide SX5).below b6)
  have SG6 := hide ((unhide SG5).below b6)
  have SR6 := hide o6.strs
  clear o6 b6 SW5 SK5 SX5 SG5
  go_wp2_with fail
  refine (eq33 x0 r6 ts w6 (unhide SK6).strs (unhide SR6) (unhide ht)).mono ?_
  rintro e w7 ⟨rfl, k7, rfl⟩
  have b7 := below_drewN (Below.refl w6.heap.size w6) k7
  have B7 := hide ((unhide B6).trans (b7.mono (unhide B6).size))
  have SW7 := hide ((unhide SW6).below b7)
  have SK7 := hide ((unhide SK6).below b7)
  have SX7 := hide ((unhide SX6).below b7)
  have SG7 := hide ((unhide SG6).below b7)
  generalize w6.drewN k7 = w7 at *
  clear b7 SW6 SK6 SX6 SG6 SR6
  go_wp2_with fail
  refine (unhide HCO w7 (unhide B7) (unhide hn)).mono ?_
  rintro e w8 ⟨r8, rfl, o8, b8⟩
  have B8 := hide ((unhide B7).trans (b8.mono (unhide B7).size))
  have SW8 := hide ((unhide SW7).below b8)
  have SK8 := hide ((unhide SK7).below b8)
  have SX8 := hide ((unhide SX7).below b8)
  have SG8 := hide ((unhide SG7).below b8)
  have SR8 := hide o8.bytes
  clear o8 b8 SW7 SK7 SX7 SG7
  go_wp2_with fail
  refine (eq16 x3 r8 xs w8 (unhide SX8).bytes (unhide SR8) (unhide hn)).mono ?_
  rintro e w9 ⟨rfl, k9, rfl⟩
  have b9 := below_drewN (Below.refl w8.heap.size w8) k9
  have B9 := hide ((unhide B8).trans (b9.mono (unhide B8).size))
  have SW9 := hide ((unhide SW8).below b9)
  have SK9 := hide ((unhide SK8).below b9)
  have SX9 := hide ((unhide SX8).below b9)
  have SG9 := hide ((unhide SG8).below b9)
  generalize w8.drewN k9 = w9 at *
  clear b9 SW8 SK8 SX8 SG8 SR8
  go_wp2_with fail
  -- what was handed in is marked
  refine (mark34 _ _ x0 ts w9 (unhide SK9) (unhide ht)).mono ?_
  rintro e w10 ⟨rfl, _, t10⟩
  have B10 := hide (belowS (unhide B9) t10 (unhide SK9).lies (unhide B2).size (unhide B9).size)
  have SW10 := hide ((unhide SW9).touchS t10 (unhide SK9).lies (.inl (Nat.le_refl _)))
  have SX10 := hide ((unhide SX9).touchS t10 (unhide SK9).lies (.inr (Nat.le_refl _)))
  have SG10 := hide ((unhide SG9).touchS t10 (unhide SK9).lies (.inr (unhide L3)))
  clear t10 SW9 SK9 SX9 SG9
  go_wp2_with fail
  refine (mark17k (1 + (ts.length : Int)) (by omega) (by omega) _ x3 xs w10 (unhide SX10).ownB (unhide hn)).mono ?_
  rintro e w11 ⟨rfl, _, t11⟩
  have B11 := hide (below_touch (unhide B10) t11 (unhide SX10).lies (unhide BB).size)
  have SW11 := hide ((unhide SW10).touch t11 (unhide SX10).lies (.inl (unhide LB)))
  have SG11 := hide ((unhide SG10).touch t11 (unhide SX10).lies (.inr (Nat.le_refl _)))
  clear t11 SW10 SX10 SG10
  go_wp2_with fail
  refine (eq16 g0 gw L w11 (unhide SG11).bytes (unhide SW11).bytes (unhide hLn)).mono ?_
  rintro e w12 ⟨rfl, k12, rfl⟩
  have b12 := below_drewN (Below.refl w11.heap.size w11) k12
  have B12 := hide ((unhide B11).trans (b12.mono (unhide B11).size))
  have SW12 := hide ((unhide SW11).below b12)
  have SG12 := hide ((unhide SG11).below b12)
  generalize w11.drewN k12 = w12 at *
  clear b12 SW11 SG11
  go_wp2_with fail
  -- the answer is marked
  refine (mark17 _ g0 L w12 (unhide SG12).ownB (unhide hLn)).mono ?_
  rintro e w13 ⟨rfl, o13, t13⟩
  have B13 := hide (below_touch (unhide B12) t13 (unhide SG12).lies (unhide B3).size)
  have SW13 := hide ((unhide SW12).touch t13 (unhide SG12).lies (.inl (Nat.le_trans (unhide LB) (unhide L3))))
  have SM13 := hide o13.within
  clear t13 o13 SW12 SG12
  go_wp2_with fail
  refine (held18 g0 L.length w13 (unhide SM13).bytes (unhide hLn)).mono ?_
  rintro e w14 ⟨rfl, rfl⟩
  go_wp2_with fail
  -- another call
  refine (unhide HTO w14 (unhide B13) (unhide ht)).mono ?_
  rintro e wc ⟨rc, rfl, oc, bc⟩
  have BC := hide ((unhide B13).trans (bc.mono (unhide B13).size))
  have SWC := hide ((unhide SW13).below bc)
  have SMC := hide ((unhide SM13).below bc)
  have SRC := hide oc
  clear oc bc SW13 SM13
  go_wp2_with fail
  refine (unhide HCO wc (unhide BC) (unhide hn)).mono ?_
  rintro e w15 ⟨r15, rfl, o15, b15⟩
  have B15 := hide ((unhide BC).trans (b15.mono (unhide BC).size))
  have SW15 := hide ((unhide SWC).below b15)
  have SM15 := hide ((unhide SMC).below b15)
  have SR15 := hide o15.bytes
  have SRC15 := hide ((unhide SRC).below b15).strs
  clear o15 b15 SWC SMC SRC
  go_wp2_with fail
  refine (unhide HIM rc r15 w15 (unhide SRC15) (unhide SR15) (unhide ht) (unhide hn) (unhide B15)).mono ?_
  rintro e w16 ⟨h16, rfl, o16, b16⟩
  have B16 := hide ((unhide B15).trans (b16.mono (unhide B15).size))
  have SW16 := hide ((unhide SW15).below b16)
  have SM16 := hide ((unhide SM15).below b16)
  have SH16 := hide o16.bytes
  clear o16 b16 SW15 SM15 SR15 SRC15
  go_wp2_with fail
  refine (eq16 h16 gw L w16 (unhide SH16) (unhide SW16).bytes (unhide hLn)).mono ?_
  rintro e w17 ⟨rfl, k17, rfl⟩
  have b17 := below_drewN (Below.refl w16.heap.size w16) k17
  have B17 := hide ((unhide B16).trans (b17.mono (unhide B16).size))
  have SM17 := hide ((unhide SM16).below b17)
  generalize w16.drewN k17 = w17 at *
  clear b17 SW16 SM16 SH16
  go_wp2_with fail
  refine (held18 g0 L.length w17 (unhide SM17).bytes (unhide hLn)).mono ?_
  rintro e w18 ⟨rfl, rfl⟩
  go_wp2
  go_ret
  exact ⟨rfl, unhide B17⟩
end Go.Proofs.YtncplefjokbbjaaDoor
