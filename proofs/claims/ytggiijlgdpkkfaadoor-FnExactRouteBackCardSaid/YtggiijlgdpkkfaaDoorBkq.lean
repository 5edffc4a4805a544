/- RouteBack: the specification, whole. -/
import Derived.Test.YtggiijlgdpkkfaaDoorBkp
import Derived.OwnWalk
namespace Go.Proofs.YtggiijlgdpkkfaaDoor
open Go.RowKit
set_option maxHeartbeats 4000000
set_option maxRecDepth 20000
theorem emptyS (w : World) : ownS w.heap.size (w.alloc (.cells #[] 9 (0, 0))).heap.size (w.alloc (.cells #[] 9 (0, 0))) (.slice (some ⟨w.heap.size, 0, none⟩) 0 0) [] :=
  .inr ⟨w.heap.size, 0, [], rfl, Nat.le_refl _, by simp, heap_alloc_new w _, Nat.le_refl _⟩
theorem route6 (v vb : Value) (x : Mx) (c : Int) (bs : List ByteArray) (w : World) (hv : mxV w v x) (hb : strsV w vb bs) (nx : mxN x ≤ 1048576) (nb : bs.length ≤ 1048576) :
    Calls Tryd.prog 6 #[v, .int .i64 c, vb] w fun e w' => outS w (bkR x c bs).1 (bkR x c bs).2 e w' := by
  have hv0 := hv
  obtain ⟨i, r, f, s, rfl, hi, hr, hf, hs⟩ := hv
  obtain ⟨xi, xr, xf, xs, xb, xa⟩ := x
  dsimp only [mxN] at *
  have B0 : Below w.heap.size w (w.alloc (.cells #[i, r, f, s, .int .i64 xb, .int .i64 xa] 30)) := bl_al (Below.refl _ _)
  have C0 := mc_new w i r f s xb xa 30
  have HC1 := hide C0
  have HB1 := hide B0
  have K1 := hide (fun W => in19 c 0 16 W)
  have K2 := hide (fun h => items17 vb bs _ (hb.below B0) h)
  have HM := hide (fun W (hW : Below w.heap.size w W) (m : Nat) hg => back18 (mxo i r f s xb xa) vb ⟨xi, xr, xf, xs, xb, xa⟩ m bs W (hv0.below hW) (hb.below hW) hg)
  have HR := hide hr
  have HF := hide hf
  obtain ⟨_, c0, c1, c2, c3, c4, c5⟩ := C0
  obtain ⟨A1, d1, rfl⟩ := hi.slice
  obtain ⟨A2, d2, rfl⟩ := hr.slice
  obtain ⟨A3, d3, rfl⟩ := hf.slice
  obtain ⟨A4, d4, rfl⟩ := hs.slice
  obtain ⟨A5, d5, rfl⟩ := hb.slice
  have n0 : (0 : Int) ≤ (bs.length : Int) := by omega
  have n1 : (bs.length : Int) ≤ 1048576 := by omega
  have n2 : (0 : Int) ≤ (xr.length : Int) := by omega
  have n3 : (xr.length : Int) ≤ 1048576 := by omega
  have n4 : (0 : Int) ≤ (xf.length : Int) := by omega
  have n5 : (xf.length : Int) ≤ 1048576 := by omega
  have HE0 : Hid (∀ W, Below w.heap.size w W → ownS w.heap.size (W.alloc (.cells #[] 9 (0, 0))).heap.size (W.alloc (.cells #[] 9 (0, 0))) (.slice (some ⟨W.heap.size, 0, none⟩) 0 0) [] ∧ Below w.heap.size w (W.alloc (.cells #[] 9 (0, 0)))) := hide fun W h => ⟨(emptyS W).wide h.size (Nat.le_refl _), bl_al h⟩
  have HZ1 : Hid ((w.alloc (.cells #[.slice A1 xi.length d1, .slice A2 xr.length d2, .slice A3 xf.length d3, .slice A4 xs.length d4, .int .i64 xb, .int .i64 xa] 30)).heap.size = w.heap.size + 1) := hide (by simp)
  clear B0 hi hr hf hs hb hv0
  rcases bkC_cases ⟨xi, xr, xf, xs, xb, xa⟩ c bs with ⟨h1, hg⟩ | ⟨h1, h2, hg⟩ | ⟨h1, h2, h3, hg⟩ | ⟨h1, h2, h3, hg⟩
  · rw [bkR_code hg (by omega)]
    have q : (4096 : Int) < (bs.length : Int) := by omega
    clear h1 hg K1 K2 HM nx nb
    go_enter Tryd.func6, Tryd.ntmps6
    go_wp2
    rw [← unhide HZ1]
    go_ret2
    exact ⟨_, rfl, (unhide HE0 _ (unhide HB1)).1, (unhide HE0 _ (unhide HB1)).2⟩
  · rw [bkR_code hg (by omega)]
    have q : (bs.length : Int) ≤ 4096 := by omega
    rw [show (decide (0 ≤ c) && decide (c ≤ 16)) = false by rw [Bool.eq_false_iff]; simp; omega] at K1
    clear h1 h2 hg K2 HM nx nb
    go_enter Tryd.func6, Tryd.ntmps6
    go_wp2_with fail
    refine (unhide K1 _).mono ?_
    rintro e w' ⟨rfl, hw'⟩
    have hw2 := hw'.symm
    subst hw2
    clear K1
    go_wp2
    rw [← unhide HZ1]
    go_ret2
    exact ⟨_, rfl, (unhide HE0 _ (unhide HB1)).1, (unhide HE0 _ (unhide HB1)).2⟩
  · rw [bkR_code hg (by omega)]
    have q0 : (bs.length : Int) ≤ 4096 := by omega
    rw [show (decide (0 ≤ c) && decide (c ≤ 16)) = true by simp; omega] at K1
    dsimp only at h3
    have hcase : 16 < xf.length ∨ (xf.length ≤ 16 ∧ bs.length ≠ xf.length) ∨ (xf.length ≤ 16 ∧ bs.length = xf.length ∧ xr.length ≠ xf.length) := by omega
    clear h1 h2 hg K2 HM nx nb h3
    rcases hcase with h | ⟨h, h'⟩ | ⟨h, h', h''⟩
    · have q : (16 : Int) < (xf.length : Int) := by omega
      clear h
      go_enter Tryd.func6, Tryd.ntmps6
      go_wp2_with fail
      refine (unhide K1 _).mono ?_
      rintro e w' ⟨rfl, hw'⟩
      have hw2 := hw'.symm
      subst hw2
      clear K1
      go_wp2
      rw [← unhide HZ1]
      go_ret2
      exact ⟨_, rfl, (unhide HE0 _ (unhide HB1)).1, (unhide HE0 _ (unhide HB1)).2⟩
    · have q : (xf.length : Int) ≤ 16 := by omega
      have q2 : ((bs.length : Int) != (xf.length : Int)) = true := by simp; omega
      clear h h'
      go_enter Tryd.func6, Tryd.ntmps6
      go_wp2_with fail
      refine (unhide K1 _).mono ?_
      rintro e w' ⟨rfl, hw'⟩
      have hw2 := hw'.symm
      subst hw2
      clear K1
      go_wp2
      rw [← unhide HZ1]
      go_ret2
      exact ⟨_, rfl, (unhide HE0 _ (unhide HB1)).1, (unhide HE0 _ (unhide HB1)).2⟩
    · have q : (xf.length : Int) ≤ 16 := by omega
      have q2 : ((bs.length : Int) != (xf.length : Int)) = false := by simp; omega
      have q3 : ((xr.length : Int) != (xf.length : Int)) = true := by simp; omega
      clear h h' h''
      go_enter Tryd.func6, Tryd.ntmps6
      go_wp2_with fail
      refine (unhide K1 _).mono ?_
      rintro e w' ⟨rfl, hw'⟩
      have hw2 := hw'.symm
      subst hw2
      clear K1
      go_wp2
      rw [← unhide HZ1]
      go_ret2
      exact ⟨_, rfl, (unhide HE0 _ (unhide HB1)).1, (unhide HE0 _ (unhide HB1)).2⟩
  · have q0 : (bs.length : Int) ≤ 4096 := by omega
    rw [show (decide (0 ≤ c) && decide (c ≤ 16)) = true by simp; omega] at K1
    obtain ⟨hc0, hc16⟩ := h2
    dsimp only at h3 hg
    obtain ⟨h, h', h''⟩ := h3
    have q : (xf.length : Int) ≤ 16 := by omega
    have q2 : ((bs.length : Int) != (xf.length : Int)) = false := by simp; omega
    have q3 : ((xr.length : Int) != (xf.length : Int)) = false := by simp; omega
    have K3 := hide (unhide K2 h1)
    obtain ⟨m, rfl⟩ : ∃ m : Nat, c = (m : Int) := ⟨c.toNat, by omega⟩
    rw [Int.toNat_natCast] at hg
    cases hit : itB bs
    · rw [hit, Bool.false_and] at hg
      have hg' : bkC ⟨xi, xr, xf, xs, xb, xa⟩ (m : Int) bs = 1 := hg
      rw [bkR_code hg' (by omega)]
      rw [show itC bs = 1 by unfold itC; rw [hit]; rfl] at K3
      clear h1 hg hg' K2 HM nx nb h h' h'' hit
      go_enter Tryd.func6, Tryd.ntmps6
      go_wp2_with fail
      refine (unhide K1 _).mono ?_
      rintro e w' ⟨rfl, hw'⟩
      have hw2 := hw'.symm
      subst hw2
      clear K1
      go_wp2_with fail
      refine (unhide K3).mono ?_
      rintro e w' ⟨rfl, hw'⟩
      have hw2 := hw'.symm
      subst hw2
      clear K3
      go_wp2
      rw [← unhide HZ1]
      go_ret2
      exact ⟨_, rfl, (unhide HE0 _ (unhide HB1)).1, (unhide HE0 _ (unhide HB1)).2⟩
    · rw [hit, Bool.true_and] at hg
      rw [show itC bs = 0 by unfold itC; rw [hit]; rfl] at K3
      have mk := make_bools m (by omega)
      have HG := hide hg
      have HL := hide (And.intro h (And.intro h' h''))
      have hwb : ∀ b, wyB m xf xr (List.replicate m false) = b → bkR ⟨xi, xr, xf, xs, xb, xa⟩ (m : Int) bs = if b = true then (bkF xf xr bs (List.replicate m noS), 0) else ([], 1) := fun b hb => by
        rw [hb] at hg
        cases b
        · have hg' : bkC ⟨xi, xr, xf, xs, xb, xa⟩ (m : Int) bs = 1 := hg
          rw [bkR_code hg' (by omega)]; rfl
        · have hg' : bkC ⟨xi, xr, xf, xs, xb, xa⟩ (m : Int) bs = 0 := hg
          rw [bkR_ok hg', Int.toNat_natCast]; rfl
      have HWB := hide hwb
      have m16 : (m : Int) ≤ 16 := hc16
      clear h1 hg K2 nx nb h h' h'' hit hwb hc16
      go_enter Tryd.func6, Tryd.ntmps6
      go_wp2_with fail
      refine (unhide K1 _).mono ?_
      rintro e w' ⟨rfl, hw'⟩
      have hw2 := hw'.symm
      subst hw2
      clear K1
      go_wp2_with fail
      refine (unhide K3).mono ?_
      rintro e w' ⟨rfl, hw'⟩
      have hw2 := hw'.symm
      subst hw2
      clear K3
      go_wp2
      clear mk c0 c1 c2 c3 c4 c5
      rw [← unhide HZ1]
      generalize w.alloc (.cells #[.slice A1 xi.length d1, .slice A2 xr.length d2, .slice A3 xf.length d3, .slice A4 xs.length d4, .int .i64 xb, .int .i64 xa] 30) = w1 at *
      go_loopw [9] (fun i wr => ∃ (j : Nat) (sn : List Bool), j ≤ xf.length ∧ i = .int .i64 j ∧ sn.length = m ∧ wyB m (xf.drop j) (xr.drop j) sn = wyB m xf xr (List.replicate m false) ∧ wr.heap[w1.heap.size]? = some (bolO sn []) ∧ Below w1.heap.size w1 wr) (fun i _ => xf.length - (intOf i).toNat)
      case atStart => exact ⟨0, _, by omega, rfl, by simp, rfl, heap_at _ _ _ rfl, bl_al (Below.refl _ _)⟩
      case round =>
        obtain ⟨j, sn, hj, rfl, hsn, hwy, hrow, hbl⟩ := hrel
        obtain ⟨_, c0, c1, c2, c3, c4, c5⟩ := (unhide HC1).below hbl
        by_cases hlt : j < xf.length
        · rw [wyB_drop hlt] at hwy
          have q5 : (j : Int) < (xf.length : Int) := by omega
          have q4 : (0 : Int) ≤ (j : Int) := by omega
          have q6 : (j : Int) < (xr.length : Int) := by have := unhide HL; omega
          obtain ⟨_, _, ef, hcf⟩ := (unhide HF).below (unhide HB1)
          obtain ⟨_, _, er, hcr⟩ := (unhide HR).below (unhide HB1)
          simp only [Value.slice.injEq] at ef er
          obtain ⟨rfl, _, rfl⟩ := ef
          obtain ⟨rfl, _, rfl⟩ := er
          obtain ⟨bf, of, hA3, hbf, hcf2⟩ := hcf (by omega)
          obtain ⟨br, orr, hA2, hbr, hcr2⟩ := hcr (by omega)
          subst hA3 hA2
          have pf : wr.cell? ⟨bf, of + j, none⟩ = some (.int .i64 (xf.getD j 0)) := (cell_below hbl hbf).trans (hcf2 j hlt)
          have pr : wr.cell? ⟨br, orr + j, none⟩ = some (.string (xr.getD j noS)) := (cell_below hbl hbr).trans (hcr2 j (by omega))
          have HJ := hide hlt
          have HRW := hide hrow
          have HBL := hide hbl
          have HSN := hide hsn
          clear hcf hcr hcf2 hcr2 hbf hbr hlt hj hbl
          generalize xf.getD j 0 = x at *
          generalize xr.getD j noS = key at *
          by_cases hx : x = -1
          · subst hx
            rw [if_pos rfl] at hwy
            have HWY := hide hwy
            clear hwy hrow hsn
            go_wp2
            go_roundw
            case rel => exact ⟨j + 1, sn, unhide HJ, by go_num, unhide HSN, unhide HWY, unhide HRW, unhide HBL⟩
            case measure => have := unhide HJ; simp [intOf]; omega
          · have hx2 : (x == -1) = false := by simpa using hx
            rw [if_neg hx] at hwy
            have K := hide (fun W => in19 x 0 ((m : Int) - 1) W)
            by_cases hcc : 0 ≤ x ∧ x < (m : Int)
            · rw [show (decide (0 ≤ x) && decide (x ≤ (m : Int) - 1)) = true by simp; omega] at K
              obtain ⟨k, rfl⟩ : ∃ k : Nat, x = (k : Int) := ⟨x.toNat, by omega⟩
              have k1 : (k : Int) < (m : Int) := by omega
              have k0 : (0 : Int) ≤ (k : Int) := by omega
              have p1 := cell_bolO hrow k (by omega)
              have p2 := free_bolO hrow k
              have p3 := set_bolO hrow k true (by omega)
              rw [Int.toNat_natCast, decide_eq_true k0, decide_eq_true k1, Bool.true_and, Bool.true_and] at hwy
              have HS2 : Hid ((sn.set k true).length = m) := hide (by rw [List.length_set]; exact unhide HSN)
              have HP := hide p3
              clear hcc hrow p3 hsn hx
              generalize sn.set k true = s2 at *
              generalize sn.getD k false = y at *
              cases y
              · by_cases hk : key.size = 32
                · have hk2 : ((key.size : Int) != 32) = false := by rw [hk]; rfl
                  rw [show isK key = true from decide_eq_true hk] at hwy
                  have HWY : Hid (wyB m (xf.drop (j + 1)) (xr.drop (j + 1)) s2 = wyB m xf xr (List.replicate m false)) := hide (by rw [← hwy]; rfl)
                  clear hwy hk
                  go_wp2_with fail
                  refine (unhide K _).mono ?_
                  rintro e w' ⟨rfl, hw'⟩
                  have hw2 := hw'.symm
                  subst hw2
                  clear K
                  go_wp2
                  go_roundw
                  case rel => exact ⟨j + 1, s2, unhide HJ, by go_num, unhide HS2, unhide HWY, unhide HP, bl_set (unhide HBL) (Nat.le_refl _)⟩
                  case measure => have := unhide HJ; simp [intOf]; omega
                · have hk2 : ((key.size : Int) != 32) = true := by simp; omega
                  rw [show isK key = false from decide_eq_false hk] at hwy
                  have HWY : Hid (wyB m xf xr (List.replicate m false) = false) := hide (by rw [← hwy]; rfl)
                  clear hwy hk
                  go_wp2_with fail
                  refine (unhide K _).mono ?_
                  rintro e w' ⟨rfl, hw'⟩
                  have hw2 := hw'.symm
                  subst hw2
                  clear K
                  go_wp2
                  go_ret2
                  rw [unhide HWB _ (unhide HWY)]
                  exact ⟨_, rfl, (unhide HE0 _ (bl_st (unhide HBL) (unhide HB1))).1, (unhide HE0 _ (bl_st (unhide HBL) (unhide HB1))).2⟩
              · have HWY : Hid (wyB m xf xr (List.replicate m false) = false) := hide (by rw [← hwy]; rfl)
                clear hwy
                go_wp2_with fail
                refine (unhide K _).mono ?_
                rintro e w' ⟨rfl, hw'⟩
                have hw2 := hw'.symm
                subst hw2
                clear K
                go_wp2
                go_ret2
                rw [unhide HWB _ (unhide HWY)]
                exact ⟨_, rfl, (unhide HE0 _ (bl_st (unhide HBL) (unhide HB1))).1, (unhide HE0 _ (bl_st (unhide HBL) (unhide HB1))).2⟩
            · rw [show (decide (0 ≤ x) && decide (x ≤ (m : Int) - 1)) = false by rw [Bool.eq_false_iff]; simp; omega] at K
              have HWY : Hid (wyB m xf xr (List.replicate m false) = false) := hide (by
                rw [← hwy, show (decide (0 ≤ x) && decide (x < (m : Int))) = false by rw [Bool.eq_false_iff]; simp; omega]; rfl)
              clear hwy hrow hsn hx hcc
              go_wp2_with fail
              refine (unhide K _).mono ?_
              rintro e w' ⟨rfl, hw'⟩
              have hw2 := hw'.symm
              subst hw2
              clear K
              go_wp2
              go_ret2
              rw [unhide HWB _ (unhide HWY)]
              exact ⟨_, rfl, (unhide HE0 _ (bl_st (unhide HBL) (unhide HB1))).1, (unhide HE0 _ (bl_st (unhide HBL) (unhide HB1))).2⟩
        · obtain rfl : j = xf.length := by omega
          rw [List.drop_length, wyB] at hwy
          have hg0 : bkC ⟨xi, xr, xf, xs, xb, xa⟩ (m : Int) bs = 0 := by rw [unhide HG, ← hwy]; rfl
          have K := hide (unhide HM wr (bl_st hbl (unhide HB1)) m hg0)
          have HWY := hide hwy.symm
          have HBL := hide hbl
          clear hwy hrow hbl hlt hsn hg0 HM
          go_wp2_with fail
          refine (unhide K).mono ?_
          rintro e w2 ⟨r2, rfl, o2, b2⟩
          have O2 := hide o2
          have B2 := hide (bl_st b2 (bl_st (unhide HBL) (unhide HB1)))
          have Z2 := hide (bl_st (unhide HBL) (unhide HB1)).size
          clear K o2 b2
          go_wp2
          go_ret2
          rw [unhide HWB _ (unhide HWY)]
          exact ⟨_, rfl, (unhide O2).wide (unhide Z2) (Nat.le_refl _), unhide B2⟩
end Go.Proofs.YtggiijlgdpkkfaaDoor
