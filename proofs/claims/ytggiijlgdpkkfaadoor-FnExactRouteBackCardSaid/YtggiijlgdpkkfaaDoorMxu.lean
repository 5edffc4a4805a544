/- What a mix has made: compared, marked. -/
import Derived.Test.YtggiijlgdpkkfaaDoorMxt
import Derived.OwnWalk
namespace Go.Proofs.YtggiijlgdpkkfaaDoor
open Go.RowKit
set_option maxHeartbeats 4000000
set_option maxRecDepth 20000
theorem eq11 (v u : Value) (x : Mx) (w : World) (hv : mxV w v x) (hu : mxV w u x) (hn : mxN x ≤ 1048576) :
    Calls Tryd.prog 11 #[v, u] w fun e w' => e = .returned (.bool true) ∧ Below w.heap.size w w' := by
  obtain ⟨i, r, f, s, rfl, hi, hr, hf, hs⟩ := hv
  obtain ⟨i', r', f', s', rfl, hi', hr', hf', hs'⟩ := hu
  obtain ⟨xi, xr, xf, xs, xb, xa⟩ := x
  dsimp only [mxN] at *
  have B1 : Below w.heap.size w (w.alloc (.cells #[i, r, f, s, .int .i64 xb, .int .i64 xa] 30)) := bl_al (Below.refl _ _)
  have B2 := bl_al (o := (.cells #[i', r', f', s', .int .i64 xb, .int .i64 xa] 30)) B1
  have C := (mc_new w i r f s xb xa 30).below (bl_al (o := (.cells #[i', r', f', s', .int .i64 xb, .int .i64 xa] 30)) (Below.refl _ _))
  have D := mc_new (w.alloc (.cells #[i, r, f, s, .int .i64 xb, .int .i64 xa] 30)) i' r' f' s' xb xa 30
  rw [show (w.alloc (.cells #[i, r, f, s, .int .i64 xb, .int .i64 xa] 30)).heap.size = w.heap.size + 1 by simp] at D
  have K1 := hide (fun W (h : Below w.heap.size w W) => eq33 i i' xi W (hi.below h) (hi'.below h) (by omega))
  have K2 := hide (fun W (h : Below w.heap.size w W) => eq33 r r' xr W (hr.below h) (hr'.below h) (by omega))
  have K3 := hide (fun W (h : Below w.heap.size w W) => eq8 f f' xf W (hf.below h) (hf'.below h) (by omega))
  have K4 := hide (fun W (h : Below w.heap.size w W) => eq33 s s' xs W (hs.below h) (hs'.below h) (by omega))
  have HC := hide C
  have HD := hide D
  have HB := hide B2
  obtain ⟨_, c0, c1, c2, c3, c4, c5⟩ := C
  obtain ⟨_, d0, d1, d2, d3, d4, d5⟩ := D
  obtain ⟨A1, q1, rfl⟩ := hi.slice
  obtain ⟨A2, q2, rfl⟩ := hr.slice
  obtain ⟨A3, q3, rfl⟩ := hf.slice
  obtain ⟨A4, q4, rfl⟩ := hs.slice
  obtain ⟨A1', q1', rfl⟩ := hi'.slice
  obtain ⟨A2', q2', rfl⟩ := hr'.slice
  obtain ⟨A3', q3', rfl⟩ := hf'.slice
  obtain ⟨A4', q4', rfl⟩ := hs'.slice
  clear B1 B2 hn hi hr hf hs hi' hr' hf' hs'
  go_enter Tryd.func11, Tryd.ntmps11
  go_wp2_with fail
  generalize (w.alloc (.cells #[.slice A1 xi.length q1, .slice A2 xr.length q2, .slice A3 xf.length q3, .slice A4 xs.length q4, .int .i64 xb, .int .i64 xa] 30)).alloc (.cells #[.slice A1' xi.length q1', .slice A2' xr.length q2', .slice A3' xf.length q3', .slice A4' xs.length q4', .int .i64 xb, .int .i64 xa] 30) = v0 at *
  refine (unhide K1 v0 (unhide HB)).mono ?_
  rintro e v1 ⟨rfl, k1, hv1⟩
  have b : Below v0.heap.size v0 v1 := by rw [hv1]; exact below_drewN (Below.refl _ _) _
  have HB1 := hide (bl_st b (unhide HB))
  have HC1 := hide ((unhide HC).below b)
  have HD1 := hide ((unhide HD).below b)
  clear b hv1 K1 HB HC HD c0 c1 c2 c3 c4 c5 d0 d1 d2 d3 d4 d5
  have HB := HB1
  have HC := HC1
  have HD := HD1
  clear HB1 HC1 HD1
  obtain ⟨_, c0, c1, c2, c3, c4, c5⟩ := unhide HC
  obtain ⟨_, d0, d1, d2, d3, d4, d5⟩ := unhide HD
  go_wp2_with fail
  refine (unhide K2 v1 (unhide HB)).mono ?_
  rintro e v2 ⟨rfl, k2, hv2⟩
  have b : Below v1.heap.size v1 v2 := by rw [hv2]; exact below_drewN (Below.refl _ _) _
  have HB2 := hide (bl_st b (unhide HB))
  have HC2 := hide ((unhide HC).below b)
  have HD2 := hide ((unhide HD).below b)
  clear b hv2 K2 HB HC HD c0 c1 c2 c3 c4 c5 d0 d1 d2 d3 d4 d5
  have HB := HB2
  have HC := HC2
  have HD := HD2
  clear HB2 HC2 HD2
  obtain ⟨_, c0, c1, c2, c3, c4, c5⟩ := unhide HC
  obtain ⟨_, d0, d1, d2, d3, d4, d5⟩ := unhide HD
  go_wp2_with fail
  refine (unhide K3 v2 (unhide HB)).mono ?_
  rintro e v3 ⟨rfl, k3, hv3⟩
  have b : Below v2.heap.size v2 v3 := by rw [hv3]; exact below_drewN (Below.refl _ _) _
  have HB3 := hide (bl_st b (unhide HB))
  have HC3 := hide ((unhide HC).below b)
  have HD3 := hide ((unhide HD).below b)
  clear b hv3 K3 HB HC HD c0 c1 c2 c3 c4 c5 d0 d1 d2 d3 d4 d5
  have HB := HB3
  have HC := HC3
  have HD := HD3
  clear HB3 HC3 HD3
  obtain ⟨_, c0, c1, c2, c3, c4, c5⟩ := unhide HC
  obtain ⟨_, d0, d1, d2, d3, d4, d5⟩ := unhide HD
  go_wp2_with fail
  refine (unhide K4 v3 (unhide HB)).mono ?_
  rintro e v4 ⟨rfl, k4, hv4⟩
  have b : Below v3.heap.size v3 v4 := by rw [hv4]; exact below_drewN (Below.refl _ _) _
  have HB4 := hide (bl_st b (unhide HB))
  have HC4 := hide ((unhide HC).below b)
  have HD4 := hide ((unhide HD).below b)
  clear b hv4 K4 HB HC HD c0 c1 c2 c3 c4 c5 d0 d1 d2 d3 d4 d5
  have HB := HB4
  have HC := HC4
  have HD := HD4
  clear HB4 HC4 HD4
  obtain ⟨_, c0, c1, c2, c3, c4, c5⟩ := unhide HC
  obtain ⟨_, d0, d1, d2, d3, d4, d5⟩ := unhide HD
  go_wp2
  go_ret
  exact ⟨rfl, unhide HB⟩
theorem markS (lo hi : Nat) (v : Value) (ts : List ByteArray) (k : Nat) (w : World) (hv : ownS lo hi w v ts) (hn : ts.length ≤ 2097152) (hk : k ≤ 2097152) :
    Calls Tryd.prog 13 #[v, .int .i64 (k : Int)] w fun e w' => e = .returned (.int .i64 ((k : Int) + (ts.length : Int))) ∧ TouchS v w w' := by
  obtain ⟨rfl, rfl⟩ | ⟨g, cap, rest, rfl, hg, hh, hc, hcp⟩ := hv
  · go_enter Tryd.func13, Tryd.ntmps13
    go_wp2
    refine wp_loop_rounds 1 ?_
    rw [rounds_succ]; go_wp2
    go_ret
    exact ⟨by simp, ⟨rfl, rfl, rfl, Nat.le_refl _, fun _ _ _ => rfl⟩⟩
  · obtain ⟨n, hnx⟩ : ∃ n, n = ts.length := ⟨_, rfl⟩
    rw [← hnx] at hn hcp ⊢
    have HN := hide hnx
    have HC := hide hc
    have k0 : (0 : Int) ≤ (k : Int) := by omega
    have k1 : (k : Int) ≤ 2097152 := by omega
    clear hc hnx hg hcp hh
    go_enter Tryd.func13, Tryd.ntmps13
    go_wp2
    go_loopw [1, 5] (fun m i wr => ∃ (j : Nat) (ys : List ByteArray), j ≤ n ∧ i = .int .i64 j ∧ m = .int .i64 ((k : Int) + (j : Int)) ∧ ys.length = n ∧ wr.heap[g]? = some (strO ys rest) ∧ Lone g w wr) (fun _ i _ => n - (intOf i).toNat)
    case atStart => exact ⟨0, ts, by omega, rfl, by simp, (unhide HN).symm, unhide HC, Lone.refl _ _⟩
    case round =>
      obtain ⟨j, ys, hj, rfl, rfl, hy, ho, hlo⟩ := hrel
      by_cases hlt : j < n
      · have q1 : (j : Int) < (n : Int) := by omega
        have q0 : (0 : Int) ≤ (j : Int) := by omega
        have q2 : (n : Int) ≤ 2097152 := by omega
        have hm := hide (mt38 (k + j) (by omega) wr)
        have eK : ((k + j : Nat) : Int) = (k : Int) + (j : Int) := by omega
        obtain ⟨z, hz⟩ : ∃ z : Int, (k : Int) + (j : Int) = z := ⟨_, rfl⟩
        rw [eK, hz] at hm
        rw [hz]
        have z0 : 0 ≤ z := by omega
        have z1 : z ≤ 4194304 := by omega
        have HZ := hide hz
        have HJ := hide hlt
        have HO := hide ho
        have HL := hide hlo
        have HY := hide hy
        clear hlt hj ho hlo HC hy eK hz
        go_wp2_with fail
        refine (unhide hm).mono ?_
        rintro e w1 ⟨rfl, b1⟩
        have ho := (b1.block g (Array.getElem?_eq_some_iff.1 (unhide HO)).1).trans (unhide HO)
        have hjy : j < ys.length := by have := unhide HJ; have := unhide HY; omega
        have p1 := cell_strO ho j hjy
        have p2 := free_strO ho j
        have P3 := hide (set_strO ho j (mkT (k + j)) hjy)
        have L3 := hide (((unhide HL).trans (Lone.of_below b1)).trans (lone_setCell g j w1 (.string (mkT (k + j)))))
        have Y3 : Hid ((ys.set j (mkT (k + j))).length = n) := hide (by rw [List.length_set]; exact unhide HY)
        clear ho b1 HL HO hm hjy
        generalize ys.set j (mkT (k + j)) = y2 at *
        generalize ys.getD j noS = m0 at *
        generalize mkT (k + j) = tx at *
        go_wp2
        go_roundw
        case rel => exact ⟨j + 1, y2, unhide HJ, by go_num, by rw [← unhide HZ]; go_num, unhide Y3, unhide P3, unhide L3⟩
        case measure => have := unhide HJ; simp [intOf]; omega
      · obtain rfl : j = n := by omega
        have HL := hide hlo
        clear ho hlo hlt
        go_wp2
        go_ret
        exact ⟨rfl, ⟨(unhide HL).os, (unhide HL).tape, (unhide HL).output, (unhide HL).size, fun k hk hne => (unhide HL).block k hk (fun e => hne (by rw [e]; rfl))⟩⟩
theorem mark12 (lo hi : Nat) (v : Value) (x : Mx) (w : World) (hv : ownM lo hi w v x) (hn : mxN x ≤ 1048576) (hh : hi ≤ w.heap.size) :
    Calls Tryd.prog 12 #[v, .int .i64 1] w fun e w' => e = .returned (.int .i64 (((1 + mxN x : Nat)) : Int)) ∧ TouchR lo hi w w' := by
  obtain ⟨i, r, f, s, m1, m2, m3, rfl, a1, a2, a3, a4, hi1, hr, hf, hs⟩ := hv
  obtain ⟨xi, xr, xf, xs, xb, xa⟩ := x
  dsimp only [mxN] at *
  have B1 : Below w.heap.size w (w.alloc (.cells #[i, r, f, s, .int .i64 xb, .int .i64 xa] 30)) := bl_al (Below.refl _ _)
  have K1 := hide (markS lo m1 i xi 1 _ (hi1.below B1) (by omega) (by omega))
  have K2 := hide (fun W (h : ownS m1 m2 W r xr) => markS m1 m2 r xr (1 + xi.length) W h (by omega) (by omega))
  have K3 := hide (fun W (h : ownI m2 m3 W f xf) => mark21 m2 m3 f xf (1 + xi.length + xr.length) W h (by omega) (by omega))
  have K4 := hide (fun W (h : ownS m3 hi W s xs) => markS m3 hi s xs (1 + xi.length + xr.length + xf.length) W h (by omega) (by omega))
  have HR := hide (hr.below B1)
  have HF := hide (hf.below B1)
  have HS := hide (hs.below B1)
  have HLi := hide hi1.lies
  have HLr := hide hr.lies
  have HLf := hide hf.lies
  have HLs := hide hs.lies
  have HAA := hide (show lo ≤ m1 ∧ m1 ≤ m2 ∧ m2 ≤ m3 ∧ m3 ≤ hi ∧ hi ≤ w.heap.size from ⟨a1, a2, a3, a4, hh⟩)
  have T0 := hide (TouchR.of_below (lo := lo) (hi := hi) B1)
  have HN := hide (heap_alloc_new w (.cells #[i, r, f, s, .int .i64 xb, .int .i64 xa] 30))
  have C := mc_new w i r f s xb xa 30
  obtain ⟨_, c0, c1, c2, c3, c4, c5⟩ := C
  obtain ⟨A1, q1, rfl⟩ := hi1.strs.slice
  obtain ⟨A2, q2, rfl⟩ := hr.strs.slice
  obtain ⟨A3, q3, rfl⟩ := hf.ints.slice
  obtain ⟨A4, q4, rfl⟩ := hs.strs.slice
  have e1 : ((1 : Nat) : Int) + (xi.length : Int) = ((1 + xi.length : Nat) : Int) := by omega
  have e2 : ((1 + xi.length : Nat) : Int) + (xr.length : Int) = ((1 + xi.length + xr.length : Nat) : Int) := by omega
  have e3 : ((1 + xi.length + xr.length : Nat) : Int) + (xf.length : Int) = ((1 + xi.length + xr.length + xf.length : Nat) : Int) := by omega
  have e4 : ((1 + xi.length + xr.length + xf.length : Nat) : Int) + (xs.length : Int) = ((1 + (xi.length + xr.length + xf.length + xs.length) : Nat) : Int) := by omega
  rw [e1] at K1
  simp only [e2] at K2
  simp only [e3] at K3
  simp only [e4] at K4
  clear B1 hn hi1 hr hf hs a1 a2 a3 a4 hh e1 e2 e3 e4
  generalize ((1 + (xi.length + xr.length + xf.length + xs.length) : Nat) : Int) = k4 at *
  generalize 1 + xi.length + xr.length + xf.length = k3 at *
  generalize 1 + xi.length + xr.length = k2 at *
  generalize 1 + xi.length = k1 at *
  go_enter Tryd.func12, Tryd.ntmps12
  go_wp2_with fail
  generalize w.alloc (.cells #[.slice A1 xi.length q1, .slice A2 xr.length q2, .slice A3 xf.length q3, .slice A4 xs.length q4, .int .i64 xb, .int .i64 xa] 30) = v0 at *
  refine (unhide K1).mono ?_
  rintro e v1 ⟨rfl, t⟩
  have tr : TouchR lo m1 v0 v1 := TouchR.of_touch t (unhide HLi) (Nat.le_refl _) (Nat.le_refl _)
  have T1 := hide ((unhide T0).trans (tr.wide (by have := unhide HAA; omega) (by have := unhide HAA; omega)))
  have HR1 := hide ((unhide HR).touchR tr (Or.inr (by have := unhide HAA; omega)))
  have HF1 := hide ((unhide HF).touchR tr (Or.inr (by have := unhide HAA; omega)))
  have HS1 := hide ((unhide HS).touchR tr (Or.inr (by have := unhide HAA; omega)))
  have n1 := (tr.block _ (Array.getElem?_eq_some_iff.1 (unhide HN)).1 (by have := unhide HAA; omega)).trans (unhide HN)
  clear c0 c1 c2 c3 c4 c5 t tr HN T0 K1 HR HF HS
  have HR := HR1
  clear HR1
  have HF := HF1
  clear HF1
  have HS := HS1
  clear HS1
  have HN := hide n1
  obtain ⟨_, c0, c1, c2, c3, c4, c5⟩ := mc_row n1
  clear n1
  go_wp2_with fail
  refine (unhide K2 v1 (unhide HR)).mono ?_
  rintro e v2 ⟨rfl, t⟩
  have tr : TouchR m1 m2 v1 v2 := TouchR.of_touch t (unhide HLr) (Nat.le_refl _) (Nat.le_refl _)
  have T2 := hide ((unhide T1).trans (tr.wide (by have := unhide HAA; omega) (by have := unhide HAA; omega)))
  have HF2 := hide ((unhide HF).touchR tr (Or.inr (by have := unhide HAA; omega)))
  have HS2 := hide ((unhide HS).touchR tr (Or.inr (by have := unhide HAA; omega)))
  have n2 := (tr.block _ (Array.getElem?_eq_some_iff.1 (unhide HN)).1 (by have := unhide HAA; omega)).trans (unhide HN)
  clear c0 c1 c2 c3 c4 c5 t tr HN T1 K2 HF HS
  have HF := HF2
  clear HF2
  have HS := HS2
  clear HS2
  have HN := hide n2
  obtain ⟨_, c0, c1, c2, c3, c4, c5⟩ := mc_row n2
  clear n2
  go_wp2_with fail
  refine (unhide K3 v2 (unhide HF)).mono ?_
  rintro e v3 ⟨rfl, _, t⟩
  have tr : TouchR m2 m3 v2 v3 := TouchR.of_touch t (unhide HLf) (Nat.le_refl _) (Nat.le_refl _)
  have T3 := hide ((unhide T2).trans (tr.wide (by have := unhide HAA; omega) (by have := unhide HAA; omega)))
  have HS3 := hide ((unhide HS).touchR tr (Or.inr (by have := unhide HAA; omega)))
  have n3 := (tr.block _ (Array.getElem?_eq_some_iff.1 (unhide HN)).1 (by have := unhide HAA; omega)).trans (unhide HN)
  clear c0 c1 c2 c3 c4 c5 t tr HN T2 K3 HS
  have HS := HS3
  clear HS3
  have HN := hide n3
  obtain ⟨_, c0, c1, c2, c3, c4, c5⟩ := mc_row n3
  clear n3
  go_wp2_with fail
  refine (unhide K4 v3 (unhide HS)).mono ?_
  rintro e v4 ⟨rfl, t⟩
  have tr : TouchR m3 hi v3 v4 := TouchR.of_touch t (unhide HLs) (Nat.le_refl _) (Nat.le_refl _)
  have T4 := hide ((unhide T3).trans (tr.wide (by have := unhide HAA; omega) (by have := unhide HAA; omega)))
  clear t tr c0 c1 c2 c3 c4 c5
  go_wp2
  go_ret
  exact ⟨rfl, unhide T4⟩
end Go.Proofs.YtggiijlgdpkkfaaDoor
