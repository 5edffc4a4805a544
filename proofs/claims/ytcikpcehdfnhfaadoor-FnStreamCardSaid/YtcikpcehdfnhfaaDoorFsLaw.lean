/- The law FnStream, walked. -/
import Derived.Test.YtcikpcehdfnhfaaDoorFs
import Derived.Test.YtcikpcehdfnhfaaDoorPlainOf
namespace Go.Proofs.YtcikpcehdfnhfaaDoor
open Go.RowKit
set_option maxHeartbeats 8000000
set_option maxRecDepth 20000
theorem fs_law (w : World) (A : Option Addr) (n cap : Nat) (hn : n ≤ maxLen) (hc : codeAt w A n) (B : Option Addr) (m cbp : Nat) (hm : m ≤ maxLen) (hd : codeAt w B m) (t : TypeId) (fr : Nat × Nat) (hq : w.heap[0]? = some (.cells qArr t fr)) :
    Calls Tryd.prog 3 #[.slice A n cap, .slice B m cbp] w fun e w' => e = .returned (.bool true) ∧ Below w.heap.size w w' := by
  have h0 : 0 < w.heap.size := (Array.getElem?_eq_some_iff.1 hq).1
  by_cases h1 : 1048576 < n
  · have h1' : (1048576 : Int) < (n : Int) := by omega
    clear h1 hc hd hq
    go_enter Tryd.func3, Tryd.ntmps3
    go_wp2
    go_ret
    exact ⟨rfl, Below.refl _ _⟩
  have h1' : (n : Int) ≤ 1048576 := by omega
  by_cases h2 : 1048576 < m
  · have h2' : (1048576 : Int) < (m : Int) := by omega
    clear h1 h2 hc hd hq
    go_enter Tryd.func3, Tryd.ntmps3
    go_wp2
    go_ret
    exact ⟨rfl, Below.refl _ _⟩
  have h2' : (m : Int) ≤ 1048576 := by omega
  obtain ⟨cs, hcl, hcb⟩ := bytes_of_code cap hc
  obtain ⟨ms, hml, hmb⟩ := bytes_of_code cbp hd
  have hqW := fun W (hb : Below w.heap.size w W) => (hb.block 0 h0).trans hq
  have HQ := hide hqW
  have HC := hide hc
  have HD := hide hd
  have HCB := hide hcb
  have HMB := hide hmb
  have HCL := hide hcl
  have HML := hide hml
  have HN := hide (show n ≤ 1048576 by omega)
  have HM := hide (show m ≤ 1048576 by omega)
  have HNM := hide hn
  have HMM := hide hm
  clear h1 h2 hqW hc hd hq hcb hmb hcl hml hn hm h0
  go_enter Tryd.func3, Tryd.ntmps3
  go_wp2_with fail
  -- a key
  refine (blobOf_any 32 A n cap w (by omega) (unhide HNM) (unhide HC)).mono ?_
  rintro e w1 ⟨key, rfl, hk, b1⟩
  have B1 := hide b1
  have HK := hide hk
  clear b1 hk
  go_wp2_with fail
  -- a nonce
  refine (blobOf_any 12 B m cbp w1 (by omega) (unhide HMM) (codeAt_below (unhide HD) (unhide B1))).mono ?_
  rintro e w2 ⟨nonce, rfl, hno, b2⟩
  have B2 := hide ((unhide B1).trans (b2.mono (unhide B1).size))
  have HO := hide hno
  clear b2 hno
  go_wp2_with fail
  -- bytes
  refine (plainOf7 B m cbp w2 (unhide HMM) (codeAt_below (unhide HD) (unhide B2))).mono ?_
  rintro e w3 ⟨v, xs, rfl, hx, hB, hown, hv, b3, hz3⟩
  have B3 := hide ((unhide B2).trans (b3.mono (unhide B2).size))
  have HX := hide hx
  have HBX := hide hB
  have OW := hide hown
  have HV := hide hv
  have HZ := hide hz3
  have L2 := hide (unhide B2).size
  clear b3 hx hB hown hv hz3
  go_wp2_with (at_builtin; refine wpList_append_zeros _ rfl _ _ rfl (w2.heap.size + 1) xs.length 64 v xs rfl (unhide OW) (unhide HV) rfl (by have := unhide HX; omega) (unhide HZ) ?_; intro g c w4 ho4 hg4)
  obtain ⟨bs, hbs⟩ : ∃ bs, bs = xs ++ List.replicate 64 (0 : Int) := ⟨_, rfl⟩
  have hbl : bs.length = xs.length + 64 := by rw [hbs]; simp
  rw [← hbs] at ho4
  have HBB : Hid (isB bs) := by rw [hbs]; exact isB_zeros (unhide HBX) 64
  obtain ⟨g', c', rest, hval, hgb, hgl, hcap, hrow⟩ := own_rowB ho4 ⟨_, _, rfl⟩
  obtain ⟨rfl, rfl⟩ : g = g' ∧ c = c' := by simp at hval; exact hval
  have hlt3 := fun k hk => ((unhide OW).lt k hk).1
  have B4 := hide (Below.grown (unhide B3) hg4 (unhide B3).size (fun k hk => by have := hlt3 k hk; have := unhide L2; omega))
  have RB4 : Hid (rowAt w4 g 0 bs) := hide ⟨hgl, fun i hi => by rw [Nat.zero_add]; exact cell_rowObj hrow i hi⟩
  obtain ⟨lb, hlb⟩ : ∃ lb, lb = xs.length + 64 := ⟨_, rfl⟩
  have l0 : 64 ≤ lb := by omega
  have l1 : lb ≤ 204 := by have := unhide HX; omega
  rw [← hlb] at hbl hcap ⊢
  have HBL := hide hbl
  have L0 := hide l0
  have L1 := hide l1
  have HCP := hide hcap
  clear ho4 hg4 hval hgb hgl hrow hlt3 hbs hbl hlb OW HV HZ HX HBX B3 l0 l1 hcap
  -- a counter
  have hat := at_is w4 (.slice B m cbp) ms 0 50 (by rw [unhide HML]; exact unhide HM) (by omega) (by omega) (by omega) ((unhide HMB).below (unhide B4))
  obtain ⟨a0, a1⟩ := atN_bd ms 0 50 (by omega)
  generalize atN ms 0 50 = N at *
  have a1' : N < 50 := by omega
  refine hat.mono ?_
  clear hat a1
  rintro e w5 ⟨rfl, k5, rfl⟩
  have b5 := below_drewN (Below.refl w4.heap.size w4) k5
  have B5 := hide ((unhide B4).trans (b5.mono (unhide B4).size))
  have RB5 := hide ((unhide RB4).below b5)
  generalize w4.drewN k5 = w5 at *
  clear b5 RB4
  obtain ⟨eC1, eL1⟩ := sx_ok key nonce (unhide HK) (unhide HO) N a0 (by omega) bs (by rw [unhide HBL]; have := unhide L1; omega)
  have hRl := xorL_len key nonce N bs
  rw [unhide HBL] at hRl
  obtain ⟨eC2, eL2⟩ := sx_ok key nonce (unhide HK) (unhide HO) N a0 (by omega) (xorL key nonce N bs) (by rw [hRl]; have := unhide L1; omega)
  rw [xorL_back key nonce N bs (unhide HBB)] at eL2
  obtain ⟨eC3, eL3⟩ := sx_ok key nonce (unhide HK) (unhide HO) (N + 1) (by omega) (by omega) (bs.drop 64) (by rw [List.length_drop, unhide HBL]; have := unhide L1; omega)
  rw [xorL_later] at eL3
  have eSB := sb_ok key nonce (unhide HK) (unhide HO) N a0 (by omega)
  have i1 := hide (fun W (hb : Below w.heap.size w W) (v : Value) (hv : bytesV W v bs) => impl_SX key nonce N bs v W hv t fr (unhide HQ W hb))
  have i2 := hide (fun W (v : Value) (hv : bytesV W v bs) => spec_SX key nonce N bs v W hv)
  have i3 := hide (fun W (hb : Below w.heap.size w W) (v : Value) (hv : bytesV W v (xorL key nonce N bs)) => impl_SX key nonce N (xorL key nonce N bs) v W hv t fr (unhide HQ W hb))
  have i4 := hide (fun W (hb : Below w.heap.size w W) (v : Value) (hv : bytesV W v (bs.drop 64)) => impl_SX key nonce (N + 1) (bs.drop 64) v W hv t fr (unhide HQ W hb))
  have i5 := hide (fun W (hb : Below w.heap.size w W) => impl_SB key nonce N W t fr (unhide HQ W hb))
  simp only [eC1, eL1] at i1 i2
  simp only [eC2, eL2] at i3
  simp only [eC3, eL3] at i4
  simp only [eSB] at i5
  have hhead : Hid (∀ i, i < 64 → (xorL key nonce N bs).getD i 0 = bits .xor .u8 (bs.getD i 0) ((blkN key nonce N).getD i 0)) := hide (fun i hi => xorL_head key nonce N bs i hi (by rw [unhide HBL]; have := unhide L0; omega))
  have hBB := hide (blkN_isB key nonce N)
  have hBl := hide (blkN_len key nonce N)
  have hRB := hide (xorL_isB key nonce N bs (unhide HBB))
  have HRL := hide hRl
  clear eC1 eL1 eC2 eL2 eC3 eL3 eSB hRl
  generalize xorL key nonce N bs = R at *
  generalize blkN key nonce N = K at *
  go_wp2_with fail
  -- x
  refine (unhide i1 w5 (unhide B5) _ ((unhide RB5).bytes (unhide HBB) lb c (unhide HBL).symm)).mono ?_
  rintro e w6 ⟨x, rfl, ox, b6⟩
  have B6 := hide ((unhide B5).trans (b6.mono (unhide B5).size))
  have RB6 := hide ((unhide RB5).below b6)
  obtain ⟨gx, cx, rfl, hcx, rx⟩ := ox.row (by rw [unhide HRL]; have := unhide L0; omega)
  rw [unhide HRL] at hcx ⊢
  have RX6 := hide rx
  have HCX := hide hcx
  clear ox b6 rx hcx RB5
  go_wp2_with fail
  -- want
  refine (unhide i2 w6 _ ((unhide RB6).bytes (unhide HBB) lb c (unhide HBL).symm)).mono ?_
  rintro e w7 ⟨wa, rfl, ow, b7⟩
  have B7 := hide ((unhide B6).trans (b7.mono (unhide B6).size))
  have RB7 := hide ((unhide RB6).below b7)
  have RX7 := hide ((unhide RX6).below b7)
  have OW7 := hide ow
  clear ow b7 RB6 RX6
  go_wp2_with fail
  -- y
  refine (unhide i3 w7 (unhide B7) _ ((unhide RX7).bytes (unhide hRB) lb cx (unhide HRL).symm)).mono ?_
  rintro e w8 ⟨y, rfl, oy, b8⟩
  have B8 := hide ((unhide B7).trans (b8.mono (unhide B7).size))
  have RB8 := hide ((unhide RB7).below b8)
  have RX8 := hide ((unhide RX7).below b8)
  have OW8 := hide ((unhide OW7).below b8)
  have OY8 := hide oy
  clear oy b8 RB7 RX7 OW7
  have f0 : (64 : Int) ≤ (lb : Int) := by have := unhide L0; omega
  have f1 : (lb : Int) ≤ (c : Int) := by have := unhide HCP; omega
  have f2 : (lb : Int) ≤ (cx : Int) := by have := unhide HCX; omega
  obtain ⟨sv, hsv, hsvV⟩ : ∃ sv, Hid (sv = if c = 64 then Value.slice (some ⟨g, 0, none⟩) 0 0 else Value.slice (some ⟨g, 64, none⟩) (lb - 64) (c - 64)) ∧ Hid (bytesV w8 sv (bs.drop 64)) := by
    refine ⟨_, rfl, ?_⟩
    have hd : (bs.drop 64).length = lb - 64 := by rw [List.length_drop, unhide HBL]
    have hdB : isB (bs.drop 64) := fun x hx => unhide HBB x (List.mem_of_mem_drop hx)
    have hr := (unhide RB8).drop 64
    rw [Nat.zero_add] at hr
    by_cases hc : c = 64
    · rw [if_pos hc]
      have e : lb - 64 = 0 := by have := unhide HCP; omega
      have : bs.drop 64 = [] := List.length_eq_zero_iff.1 (by rw [hd]; exact e)
      rw [this]
      exact hide ⟨some ⟨g, 0, none⟩, 0, rfl, (fun x hx => by cases hx), fun h => by simp at h⟩
    · rw [if_neg hc]
      exact hide (hr.bytes hdB _ _ hd.symm)
  obtain ⟨sx, hsx, hsxV⟩ : ∃ sx, Hid (sx = if cx = 64 then Value.slice (some ⟨gx, 0, none⟩) 0 0 else Value.slice (some ⟨gx, 64, none⟩) (lb - 64) (cx - 64)) ∧ Hid (∀ W, rowAt W gx 0 R → (convert 22 9 sx).run Tryd.prog W = .ok (.string (strOfNums (R.drop 64))) W) := by
    refine ⟨_, rfl, hide (fun W hW => ?_)⟩
    have hd : (R.drop 64).length = lb - 64 := by rw [List.length_drop, unhide HRL]
    have hr := hW.drop 64
    rw [Nat.zero_add] at hr
    by_cases hc : cx = 64
    · rw [if_pos hc]
      have e : lb - 64 = 0 := by have := unhide HCX; omega
      have : R.drop 64 = [] := List.length_eq_zero_iff.1 (by rw [hd]; exact e)
      rw [this]
      exact rowAt.conv (xs := []) ⟨hW.lt, fun i hi => by simp at hi⟩ 0 0 rfl
    · rw [if_neg hc]
      exact hr.conv _ _ hd.symm
  have slb : ∀ W, (Instr.slice 22 (.slice (some ⟨g, 0, none⟩) lb c) (some (.int .i64 64)) none none).run Tryd.prog W = .ok sv W := by
    intro W
    rw [unhide hsv]
    have h1 := unhide L0
    have h2 := unhide HCP
    by_cases hc : c = 64
    · obtain rfl : lb = 64 := by omega
      subst hc
      go_simp
    · rw [if_neg hc]
      go_simp
  have slx : ∀ W, (Instr.slice 22 (.slice (some ⟨gx, 0, none⟩) lb cx) (some (.int .i64 64)) none none).run Tryd.prog W = .ok sx W := by
    intro W
    rw [unhide hsx]
    have h1 := unhide L0
    have h2 := unhide HCX
    by_cases hc : cx = 64
    · obtain rfl : lb = 64 := by omega
      subst hc
      go_simp
    · rw [if_neg hc]
      go_simp
  have SLX := hide slx
  clear slx
  go_wp2_with fail
  clear slb
  -- z
  refine (unhide i4 w8 (unhide B8) _ (unhide hsvV)).mono ?_
  rintro e w9 ⟨z, rfl, oz, b9⟩
  have B9 := hide ((unhide B8).trans (b9.mono (unhide B8).size))
  have RB9 := hide ((unhide RB8).below b9)
  have RX9 := hide ((unhide RX8).below b9)
  have OW9 := hide ((unhide OW8).below b9)
  have OY9 := hide ((unhide OY8).below b9)
  have OZ9 := hide oz
  clear oz b9 RB8 RX8 OW8 OY8 hsv hsvV
  go_wp2_with fail
  -- block
  refine (unhide i5 w9 (unhide B9)).mono ?_
  rintro e w10 ⟨rfl, b10⟩
  have B10 := hide ((unhide B9).trans (b10.mono (unhide B9).size))
  have RB10 := hide ((unhide RB9).below b10)
  have RX10 := hide ((unhide RX9).below b10)
  have OW10 := hide ((unhide OW9).below b10)
  have OY10 := hide ((unhide OY9).below b10)
  have OZ10 := hide ((unhide OZ9).below b10)
  clear b10 RB9 RX9 OW9 OY9 OZ9 i1 i2 i3 i4 i5
  have bk : ∀ k, Below w10.heap.size w10 (w10.drewN k) := fun k => below_drewN (Below.refl _ _) k
  have v1 : ∀ k, (convert 22 9 (.slice (some ⟨gx, 0, none⟩) lb cx)).run Tryd.prog (w10.drewN k) = .ok (.string (strOfNums R)) (w10.drewN k) := fun k => ((unhide RX10).below (bk k)).conv _ _ (unhide HRL).symm
  have v2 : ∀ k, (convert 22 9 wa).run Tryd.prog (w10.drewN k) = .ok (.string (strOfNums R)) (w10.drewN k) := fun k => ((unhide OW10).below (bk k)).conv
  have v3 : ∀ k, (convert 22 9 y).run Tryd.prog (w10.drewN k) = .ok (.string (strOfNums bs)) (w10.drewN k) := fun k => ((unhide OY10).below (bk k)).conv
  have v4 : ∀ k, (convert 22 9 (.slice (some ⟨g, 0, none⟩) lb c)).run Tryd.prog (w10.drewN k) = .ok (.string (strOfNums bs)) (w10.drewN k) := fun k => ((unhide RB10).below (bk k)).conv _ _ (unhide HBL).symm
  have v5 : ∀ k, (convert 22 9 z).run Tryd.prog (w10.drewN k) = .ok (.string (strOfNums (R.drop 64))) (w10.drewN k) := fun k => ((unhide OZ10).below (bk k)).conv
  have v6 : ∀ k, (convert 22 9 sx).run Tryd.prog (w10.drewN k) = .ok (.string (strOfNums (R.drop 64))) (w10.drewN k) := fun k => unhide hsxV _ ((unhide RX10).below (bk k))
  have u1 := v1 0
  have u2 := v2 0
  have u3 := v3 0
  have u4 := v4 0
  have u5 := v5 0
  have u6 := v6 0
  rw [show w10.drewN 0 = w10 from rfl] at u1 u2 u3 u4 u5 u6
  have slx := unhide SLX
  clear bk OW10 OY10 OZ10
  generalize strOfNums R = tR at *
  generalize strOfNums bs = tB at *
  generalize strOfNums (R.drop 64) = tD at *
  go_wp2_with fail
  go_quiet (fail)
  clear v1 v2 v3 v4 v5 v6 u1 u2 u3 u4 u5 u6 slx SLX hsx hsxV
  have B11 := hide (below_drewN (unhide B10) nq)
  have RB11 := hide ((unhide RB10).below (below_drewN (Below.refl _ _) nq))
  have RX11 := hide ((unhide RX10).below (below_drewN (Below.refl _ _) nq))
  generalize w10.drewN nq = w11 at *
  clear RB10 RX10
  go_wp2
  go_loopw [19] (fun i wr => ∃ j k : Nat, j ≤ 64 ∧ i = .int .i64 j ∧ wr = w11.drewN k) (fun i _ => 64 - (intOf i).toNat)
  case atStart => exact ⟨0, 0, by omega, rfl, rfl⟩
  case round =>
    obtain ⟨j, k, hj, rfl, rfl⟩ := hrel
    by_cases hlt : j < 64
    · have q1 : (j : Int) < 64 := by omega
      have q0 : (0 : Int) ≤ (j : Int) := by omega
      have q2 : (j : Int) < (lb : Int) := by have := unhide L0; omega
      have p1 : ∀ k, (w11.drewN k).cell? ⟨gx, j, none⟩ = some (.int .u8 (bits .xor .u8 (bs.getD j 0) (K.getD j 0))) := fun k => by
        rw [← unhide hhead j hlt]
        have := (unhide RX11).cell j (by rw [unhide HRL]; have := unhide L0; omega)
        rw [Nat.zero_add] at this
        exact this
      have p2 : ∀ k, (w11.drewN k).cell? ⟨g, j, none⟩ = some (.int .u8 (bs.getD j 0)) := fun k => by
        have := (unhide RB11).cell j (by rw [unhide HBL]; have := unhide L0; omega)
        rw [Nat.zero_add] at this
        exact this
      have ix := index_str K (unhide hBB) j (by rw [unhide hBl]; exact hlt)
      obtain ⟨x0, x1⟩ := (unhide HBB).at j
      obtain ⟨y0, y1⟩ := (unhide hBB).at j
      have HJ := hide hlt
      clear hlt hj
      generalize bs.getD j 0 = xj at *
      generalize K.getD j 0 = kj at *
      go_wp2
      go_quiet (fail)
      rw [show (w11.drewN k).drewN nq = w11.drewN (k + nq) by simp [World.drewN, Nat.add_assoc]]
      go_wp2
      go_roundw
      case rel => exact ⟨j + 1, _, unhide HJ, by go_num, rfl⟩
      case measure => have := unhide HJ; simp [intOf]; omega
    · obtain rfl : j = 64 := by omega
      have B12 := hide (below_drewN (unhide B11) k)
      generalize w11.drewN k = w12 at *
      clear hlt RB11 RX11 hhead
      have ats := fun (W : World) (hb : Below w.heap.size w W) (i : Nat) (hi : i ≤ 1000) => at_is W (.slice A n cap) cs i 1000 (by rw [unhide HCL]; exact unhide HN) hi (by omega) (by omega) ((unhide HCB).below hb)
      have AT := hide ats
      have qs := fun W => spec_QR N (atN cs 1 1000) (atN cs 2 1000) (atN cs 3 1000) W
      have qi := fun W => impl_QR N (atN cs 1 1000) (atN cs 2 1000) (atN cs 3 1000) W
      unfold QRV at qs qi
      generalize wi (gW (qr4 N (atN cs 1 1000) (atN cs 2 1000) (atN cs 3 1000)) 0) = z0 at *
      generalize wi (gW (qr4 N (atN cs 1 1000) (atN cs 2 1000) (atN cs 3 1000)) 1) = z1 at *
      generalize wi (gW (qr4 N (atN cs 1 1000) (atN cs 2 1000) (atN cs 3 1000)) 2) = z2 at *
      generalize wi (gW (qr4 N (atN cs 1 1000) (atN cs 2 1000) (atN cs 3 1000)) 3) = z3 at *
      have QS := hide qs
      have QI := hide qi
      clear ats qs qi
      go_wp2_with fail
      refine (unhide AT w12 (unhide B12) 1 (by omega)).mono ?_
      rintro e w13 ⟨rfl, k13, rfl⟩
      have B13 := hide (below_drewN (unhide B12) k13)
      generalize w12.drewN k13 = w13 at *
      go_wp2_with fail
      refine (unhide AT w13 (unhide B13) 2 (by omega)).mono ?_
      rintro e w14 ⟨rfl, k14, rfl⟩
      have B14 := hide (below_drewN (unhide B13) k14)
      generalize w13.drewN k14 = w14 at *
      go_wp2_with fail
      refine (unhide AT w14 (unhide B14) 3 (by omega)).mono ?_
      rintro e w15 ⟨rfl, k15, rfl⟩
      have B15 := hide (below_drewN (unhide B14) k15)
      generalize w14.drewN k15 = w15 at *
      go_wp2_with fail
      refine (unhide QI w15).mono ?_
      rintro e w16 ⟨rfl, rfl⟩
      go_wp2_with fail
      refine (unhide AT w16 (unhide B15) 1 (by omega)).mono ?_
      rintro e w17 ⟨rfl, k17, rfl⟩
      have B17 := hide (below_drewN (unhide B15) k17)
      generalize w16.drewN k17 = w17 at *
      go_wp2_with fail
      refine (unhide AT w17 (unhide B17) 2 (by omega)).mono ?_
      rintro e w18 ⟨rfl, k18, rfl⟩
      have B18 := hide (below_drewN (unhide B17) k18)
      generalize w17.drewN k18 = w18 at *
      go_wp2_with fail
      refine (unhide AT w18 (unhide B18) 3 (by omega)).mono ?_
      rintro e w19 ⟨rfl, k19, rfl⟩
      have B19 := hide (below_drewN (unhide B18) k19)
      generalize w18.drewN k19 = w19 at *
      go_wp2_with fail
      refine (unhide QS w19).mono ?_
      rintro e w20 ⟨rfl, b20⟩
      have B20 := hide ((unhide B19).trans (b20.mono (unhide B19).size))
      clear b20
      go_wp2
      go_ret
      exact ⟨rfl, unhide B20⟩
end Go.Proofs.YtcikpcehdfnhfaaDoor
