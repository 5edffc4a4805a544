/- The contract of l01Mul. -/
import Derived.Test.YtncplefjokbbjaaMulMath
namespace Go.Proofs.Ytncplefjokbbjaa
open Go.RowKit
set_option maxHeartbeats 6400000
abbrev Z20 : Obj := .cells #[.int .i64 0, .int .i64 0, .int .i64 0, .int .i64 0, .int .i64 0, .int .i64 0, .int .i64 0, .int .i64 0, .int .i64 0, .int .i64 0, .int .i64 0, .int .i64 0, .int .i64 0, .int .i64 0, .int .i64 0, .int .i64 0, .int .i64 0, .int .i64 0, .int .i64 0, .int .i64 0] 3
theorem make20 (w : World) : (Instr.makeSlice 51 (.int .i64 20) (.int .i64 20)).run Try.prog w = .ok (.slice (some ⟨w.heap.size, 0, none⟩) 20 20) (w.alloc Z20) := by kernel_rfl
theorem start20 (w : World) : w.alloc Z20 = rowL (adds (w.alloc Z20) #[] (w.alloc Z20).drawn) w.heap.size 3 .i64 (List.replicate 20 0) [] := by
  rw [row_same _ _ _ _ _ _ (by rw [adds_none, heap_alloc_new]; rfl), adds_none]
theorem get_adds20 (w : World) (d n : Nat) (h : n < w.heap.size) : (adds (w.alloc Z20) #[] d).heap[n]? = w.heap[n]? := by
  rw [get_adds _ _ _ _ (by simp; omega), heap_alloc_old _ _ h]
theorem mul_any (w : World) (ba bb ca cb : Nat) (u v : Int) (ha : Row10 w ba u) (hb : Row10 w bb v) :
    Calls Try.prog 41 #[.slice (some ⟨ba, 0, none⟩) 10 ca, .slice (some ⟨bb, 0, none⟩) 10 cb] w fun e w' => ∃ k, e = .returned (.slice (some ⟨k, 0, none⟩) 10 10) ∧ w.heap.size ≤ k ∧ Below w.heap.size w w' ∧ Row10 w' k (u * v) := by
  have la := ha.lt
  have lb := hb.lt
  obtain ⟨x0, x1, x2, x3, x4, x5, x6, x7, x8, x9, ra, hra, hxi, hxv⟩ := ha
  obtain ⟨y0, y1, y2, y3, y4, y5, y6, y7, y8, y9, rb, hrb, hyi, hyv⟩ := hb
  have hm := make20
  have HXA := hide hra
  have HXB := hide hrb
  have HXI := hide (fun k => in_getD hxi k)
  have HYI := hide (fun k => in_getD hyi k)
  have HXV := hide hxv
  have HYV := hide hyv
  clear hra hrb hxi hyi hxv hyv
  go_enter Try.func41, Try.ntmps41
  go_wp2
  clear hm
  rw [start20]
  go_loopw [6] (fun c wr => ∃ i : Nat, i ≤ 10 ∧ c = .int .i64 i ∧ ∃ d, wr = rowL (adds (w.alloc Z20) #[] d) w.heap.size 3 .i64 (cTo [x0, x1, x2, x3, x4, x5, x6, x7, x8, x9] [y0, y1, y2, y3, y4, y5, y6, y7, y8, y9] (10 * i)) []) (fun c _ => 10 - (intOf c).toNat)
  case atStart => exact ⟨0, by omega, rfl, _, rfl⟩
  case round =>
    obtain ⟨i, hi, rfl, d, rfl⟩ := hrel
    by_cases hlt : i < 10
    · go_wp2
      go_loopw [7] (fun c wr => ∃ k : Nat, k ≤ 10 ∧ c = .int .i64 k ∧ ∃ d, wr = rowL (adds (w.alloc Z20) #[] d) w.heap.size 3 .i64 (cTo [x0, x1, x2, x3, x4, x5, x6, x7, x8, x9] [y0, y1, y2, y3, y4, y5, y6, y7, y8, y9] (10 * i + k)) []) (fun c _ => 10 - (intOf c).toNat)
      case atStart => exact ⟨0, by omega, rfl, _, rfl⟩
      case round =>
        obtain ⟨k, hk, rfl, d, rfl⟩ := hrel
        by_cases hlk : k < 10
        · have hB : ∀ d, w.heap.size < (adds (w.alloc Z20) #[] d).heap.size := fun d => by rw [size_adds]; simp
          have S := hide (cTo_succ [x0, x1, x2, x3, x4, x5, x6, x7, x8, x9] [y0, y1, y2, y3, y4, y5, y6, y7, y8, y9] i k hlk)
          have hl := cTo_len [x0, x1, x2, x3, x4, x5, x6, x7, x8, x9] [y0, y1, y2, y3, y4, y5, y6, y7, y8, y9] (10 * i + k)
          have bC := cTo_bd [x0, x1, x2, x3, x4, x5, x6, x7, x8, x9] [y0, y1, y2, y3, y4, y5, y6, y7, y8, y9] (unhide HXI) (unhide HYI) (10 * i + k) (i + k)
          have bC2 : 0 ≤ (cTo [x0, x1, x2, x3, x4, x5, x6, x7, x8, x9] [y0, y1, y2, y3, y4, y5, y6, y7, y8, y9] (10 * i + k)).getD (i + k) 0 ∧ (cTo [x0, x1, x2, x3, x4, x5, x6, x7, x8, x9] [y0, y1, y2, y3, y4, y5, y6, y7, y8, y9] (10 * i + k)).getD (i + k) 0 ≤ 450359962737049600 := by omega
          clear bC
          generalize cTo [x0, x1, x2, x3, x4, x5, x6, x7, x8, x9] [y0, y1, y2, y3, y4, y5, y6, y7, y8, y9] (10 * i + k) = zs at *
          have hc1 : ∀ d, (rowL (adds (w.alloc Z20) #[] d) w.heap.size 3 .i64 zs []).cell? ⟨ba, i, none⟩ = some (.int .i64 ([x0, x1, x2, x3, x4, x5, x6, x7, x8, x9].getD i 0)) := fun d => by
            rw [cell_row_other _ _ _ _ _ _ _ _ (by omega), World.cell?_of_block (w := w) (get_adds20 w d ba la)]
            exact row_cell (unhide HXA) i (by simpa using hlt)
          have hc2 : ∀ d, (rowL (adds (w.alloc Z20) #[] d) w.heap.size 3 .i64 zs []).cell? ⟨bb, k, none⟩ = some (.int .i64 ([y0, y1, y2, y3, y4, y5, y6, y7, y8, y9].getD k 0)) := fun d => by
            rw [cell_row_other _ _ _ _ _ _ _ _ (by omega), World.cell?_of_block (w := w) (get_adds20 w d bb lb)]
            exact row_cell (unhide HXB) k (by simpa using hlk)
          have hc3 : ∀ d, (rowL (adds (w.alloc Z20) #[] d) w.heap.size 3 .i64 zs []).cell? ⟨w.heap.size, i + k, none⟩ = some (.int .i64 (zs.getD (i + k) 0)) := fun d => cell_row _ _ _ _ _ _ _ (by omega) (hB d)
          have hf1 : ∀ d, (rowL (adds (w.alloc Z20) #[] d) w.heap.size 3 .i64 zs []).frozen? ⟨w.heap.size, i + k, none⟩ = false := fun d => frozen_row _ _ _ _ _ _ _ (hB d)
          have hs1 : ∀ d v, (rowL (adds (w.alloc Z20) #[] d) w.heap.size 3 .i64 zs []).setCell ⟨w.heap.size, i + k, none⟩ (.int .i64 v) = rowL (adds (w.alloc Z20) #[] d) w.heap.size 3 .i64 (zs.set (i + k) v) [] := fun d v => set_row _ _ _ _ _ _ _ v (by omega) (hB d)
          have bX := unhide HXI i
          have bY := unhide HYI k
          clear hB
          generalize [x0, x1, x2, x3, x4, x5, x6, x7, x8, x9].getD i 0 = A at *
          generalize [y0, y1, y2, y3, y4, y5, y6, y7, y8, y9].getD k 0 = C at *
          generalize zs.getD (i + k) 0 = D at *
          have bP : 0 ≤ A * C ∧ A * C ≤ 4503599627370496 := ⟨Int.mul_nonneg bX.1 bY.1, by have := Int.mul_le_mul (show A ≤ 67108863 by omega) (show C ≤ 67108863 by omega) bY.1 (by omega); omega⟩
          go_wp2
          go_region
          go_wp2
          all_goals
            go_roundw
            case rel => first | exact ⟨k + 1, by omega, by go_num, d + 1, by rw [unhide S]⟩ | ((repeat apply Exists.intro); exact ⟨⟨k + 1, by omega, by go_num, d + 1, by rw [unhide S]⟩, rfl⟩)
            case measure => simp [intOf]; omega
        · obtain rfl : k = 10 := by omega
          go_wp2
          go_roundw
          case rel => first | exact ⟨i + 1, by omega, by go_num, d, rfl⟩ | ((repeat apply Exists.intro); exact ⟨⟨i + 1, by omega, by go_num, d, rfl⟩, rfl⟩)
          case measure => simp [intOf]; omega
    · obtain rfl : i = 10 := by omega
      have hB : ∀ d, w.heap.size < (adds (w.alloc Z20) #[] d).heap.size := fun d => by rw [size_adds]; simp
      have hcl := cTo_len [x0, x1, x2, x3, x4, x5, x6, x7, x8, x9] [y0, y1, y2, y3, y4, y5, y6, y7, y8, y9] (10 * 10)
      have hcb : ∀ j, 0 ≤ (cTo [x0, x1, x2, x3, x4, x5, x6, x7, x8, x9] [y0, y1, y2, y3, y4, y5, y6, y7, y8, y9] (10 * 10)).getD j 0 ∧ (cTo [x0, x1, x2, x3, x4, x5, x6, x7, x8, x9] [y0, y1, y2, y3, y4, y5, y6, y7, y8, y9] (10 * 10)).getD j 0 ≤ 450359962737049600 := fun j => by have := cTo_bd [x0, x1, x2, x3, x4, x5, x6, x7, x8, x9] [y0, y1, y2, y3, y4, y5, y6, y7, y8, y9] (unhide HXI) (unhide HYI) (10 * 10) j; omega
      have hpp := cTo_all [x0, x1, x2, x3, x4, x5, x6, x7, x8, x9] [y0, y1, y2, y3, y4, y5, y6, y7, y8, y9] 10 (Nat.le_refl _)
      rw [valT_ten, valT_ten] at hpp
      have hlast := cTo_last [x0, x1, x2, x3, x4, x5, x6, x7, x8, x9] [y0, y1, y2, y3, y4, y5, y6, y7, y8, y9] (10 * 10) (Nat.le_refl _)
      generalize cTo [x0, x1, x2, x3, x4, x5, x6, x7, x8, x9] [y0, y1, y2, y3, y4, y5, y6, y7, y8, y9] (10 * 10) = cc at *
      have HCL := hide hcl
      have HCB := hide hcb
      have HPP := hide hpp
      have HLT := hide hlast
      clear hcl hcb hpp hlast
      go_wp2
      go_loopw [8] (fun c wr => ∃ n : Nat, n ≤ 19 ∧ c = .int .i64 n ∧ wr = rowL (adds (w.alloc Z20) #[] d) w.heap.size 3 .i64 (chTo cc n) []) (fun c _ => 19 - (intOf c).toNat)
      case atStart => exact ⟨0, by omega, rfl, rfl⟩
      case round =>
        obtain ⟨n, hn, rfl, rfl⟩ := hrel
        have hcl := unhide HCL
        have hcb := unhide HCB
        have hch := chTo_bd cc hcl hcb n hn
        by_cases hln : n < 19
        · have hfar := chTo_far cc n (n + 1) (Nat.lt_succ_self n)
          have b1 := hch.2
          have b2 := hcb n
          have b3 := hcb (n + 1)
          rw [← hfar] at b3
          have hl := chTo_len cc n
          rw [hcl] at hl
          have S : Hid (chTo cc (n + 1) = chStep (chTo cc n) n) := rfl
          have bb0 : 0 ≤ (chTo cc n).getD n 0 ∧ (chTo cc n).getD n 0 ≤ 900719925474099200 := by omega
          clear hcl hcb hch hfar b1 b2
          generalize chTo cc n = zs at *
          have hc3 : ∀ j ys, ys.length = 20 → j < 20 → (rowL (adds (w.alloc Z20) #[] d) w.heap.size 3 .i64 ys []).cell? ⟨w.heap.size, j, none⟩ = some (.int .i64 (ys.getD j 0)) := fun j ys h1 h2 => cell_row _ _ _ _ _ _ _ (by omega) (hB d)
          have hk1 := hc3 n zs hl (by omega)
          have hk2 : ∀ v, (rowL (adds (w.alloc Z20) #[] d) w.heap.size 3 .i64 (zs.set n v) []).cell? ⟨w.heap.size, n + 1, none⟩ = some (.int .i64 (zs.getD (n + 1) 0)) := fun v => by
            rw [hc3 (n + 1) (zs.set n v) (by rw [List.length_set]; exact hl) (by omega), getD_set, if_neg (by omega)]
          have hf1 : ∀ ys j, (rowL (adds (w.alloc Z20) #[] d) w.heap.size 3 .i64 ys []).frozen? ⟨w.heap.size, j, none⟩ = false := fun ys j => frozen_row _ _ _ _ _ _ _ (hB d)
          have hs1 : ∀ v, (rowL (adds (w.alloc Z20) #[] d) w.heap.size 3 .i64 zs []).setCell ⟨w.heap.size, n, none⟩ (.int .i64 v) = rowL (adds (w.alloc Z20) #[] d) w.heap.size 3 .i64 (zs.set n v) [] := fun v => set_row _ _ _ _ _ _ _ v (by omega) (hB d)
          have hs2 : ∀ v t, (rowL (adds (w.alloc Z20) #[] d) w.heap.size 3 .i64 (zs.set n t) []).setCell ⟨w.heap.size, n + 1, none⟩ (.int .i64 v) = rowL (adds (w.alloc Z20) #[] d) w.heap.size 3 .i64 ((zs.set n t).set (n + 1) v) [] := fun v t => set_row _ _ _ _ _ _ _ v (by rw [List.length_set]; omega) (hB d)
          unfold chStep at S
          generalize zs.getD n 0 = A at *
          generalize zs.getD (n + 1) 0 = C at *
          clear hc3 hB
          go_wp2
          go_roundw
          case rel => first | exact ⟨n + 1, by omega, by go_num, by rw [unhide S]⟩ | ((repeat apply Exists.intro); exact ⟨⟨n + 1, by omega, by go_num, by rw [unhide S]⟩, rfl⟩)
          case measure => simp [intOf]; omega
        · obtain rfl : n = 19 := by omega
          have hvv := chTo_val cc 19 (by omega)
          have HVV := hide (hvv.trans (unhide HPP))
          have hl := chTo_len cc 19
          rw [hcl] at hl
          have HCH := hide hch
          clear hvv hcl hcb hch HPP HCL HCB
          generalize hcs : chTo cc 19 = zs at *
          clear hcs
          obtain ⟨wc, hwc⟩ : ∃ wc, wc = rowL (adds (w.alloc Z20) #[] d) w.heap.size 3 .i64 zs [] := ⟨_, rfl⟩
          have hrow : wc.heap[w.heap.size]? = some (rowObj 3 .i64 zs []) := by rw [hwc]; exact get_row _ _ _ _ _ _ (hB d)
          have hbel : Below w.heap.size w wc := by rw [hwc]; exact below_row _ _ _ _ _ _ (below_adds ((Below.refl _ _).alloc (Nat.le_refl _) _) (by simp) _ _) (Nat.le_refl _)
          have hlc : w.heap.size < wc.heap.size := (Array.getElem?_eq_some_iff.1 hrow).1
          rw [← hwc]
          have HROW := hide hrow
          have HBEL := hide hbel
          clear hwc hrow hbel hB
          have hm10 := make10
          go_wp2
          clear hm10
          rw [start10]
          go_loopw [11] (fun c wr => ∃ k : Nat, k ≤ 10 ∧ c = .int .i64 k ∧ ∃ d, wr = rowL (adds (wc.alloc Z10) #[] d) wc.heap.size 3 .i64 (oTo zs k) []) (fun c _ => 10 - (intOf c).toNat)
          case atStart => exact ⟨0, by omega, rfl, _, rfl⟩
          case round =>
            obtain ⟨k, hk, rfl, d, rfl⟩ := hrel
            have hB : ∀ d, wc.heap.size < (adds (wc.alloc Z10) #[] d).heap.size := fun d => by rw [size_adds]; simp
            have hbd : ∀ j, j < 20 → 0 ≤ zs.getD j 0 ∧ zs.getD j 0 ≤ 6710886500 := fun j hj => by
              have h1 := (unhide HCH).1
              have h2 := (unhide HCH).2
              rw [unhide HLT] at h2
              by_cases e : j = 19
              · subst e; omega
              · have := h1 j (by omega); omega
            by_cases hlk : k < 10
            · have hl2 : (oTo zs k).length = 10 := by simp [oTo]
              have S := hide (oTo_succ zs k)
              generalize oTo zs k = os at *
              have hc1 : ∀ d, (rowL (adds (wc.alloc Z10) #[] d) wc.heap.size 3 .i64 os []).cell? ⟨w.heap.size, k, none⟩ = some (.int .i64 (zs.getD k 0)) := fun d => by
                rw [cell_row_other _ _ _ _ _ _ _ _ (by omega), World.cell?_of_block (w := wc) (get_adds_alloc wc d w.heap.size hlc)]
                exact row_cell (unhide HROW) k (by omega)
              have hc2 : ∀ d, (rowL (adds (wc.alloc Z10) #[] d) wc.heap.size 3 .i64 os []).cell? ⟨w.heap.size, k + 10, none⟩ = some (.int .i64 (zs.getD (k + 10) 0)) := fun d => by
                rw [cell_row_other _ _ _ _ _ _ _ _ (by omega), World.cell?_of_block (w := wc) (get_adds_alloc wc d w.heap.size hlc)]
                exact row_cell (unhide HROW) (k + 10) (by omega)
              have hc3 : ∀ d, (rowL (adds (wc.alloc Z10) #[] d) wc.heap.size 3 .i64 os []).cell? ⟨wc.heap.size, k, none⟩ = some (.int .i64 (os.getD k 0)) := fun d => cell_row _ _ _ _ _ _ _ (by omega) (hB d)
              have hf1 : ∀ d, (rowL (adds (wc.alloc Z10) #[] d) wc.heap.size 3 .i64 os []).frozen? ⟨wc.heap.size, k, none⟩ = false := fun d => frozen_row _ _ _ _ _ _ _ (hB d)
              have hs1 : ∀ d v, (rowL (adds (wc.alloc Z10) #[] d) wc.heap.size 3 .i64 os []).setCell ⟨wc.heap.size, k, none⟩ (.int .i64 v) = rowL (adds (wc.alloc Z10) #[] d) wc.heap.size 3 .i64 (os.set k v) [] := fun d v => set_row _ _ _ _ _ _ _ v (by omega) (hB d)
              have bX := hbd k (by omega)
              have bY := hbd (k + 10) (by omega)
              clear hB hbd
              generalize zs.getD k 0 = A at *
              generalize zs.getD (k + 10) 0 = C at *
              generalize os.getD k 0 = D at *
              go_wp2
              go_region
              go_wp2
              all_goals
                go_roundw
                case rel => first | exact ⟨k + 1, by omega, by go_num, d + 1, by rw [unhide S]⟩ | ((repeat apply Exists.intro); exact ⟨⟨k + 1, by omega, by go_num, d + 1, by rw [unhide S]⟩, rfl⟩)
                case measure => simp [intOf]; omega
            · obtain rfl : k = 10 := by omega
              obtain ⟨c0, c1, c2, c3, c4, c5, c6, c7, c8, c9, c10, c11, c12, c13, c14, c15, c16, c17, c18, c19, rfl⟩ := list20 zs hl
              rw [show oTo [c0, c1, c2, c3, c4, c5, c6, c7, c8, c9, c10, c11, c12, c13, c14, c15, c16, c17, c18, c19] 10 = [c0 + 608 * c10, c1 + 608 * c11, c2 + 608 * c12, c3 + 608 * c13, c4 + 608 * c14, c5 + 608 * c15, c6 + 608 * c16, c7 + 608 * c17, c8 + 608 * c18, c9 + 608 * c19] from rfl]
              have hB2 := hB d
              have HNR := hide (show Near (c0 + 608 * c10) (c1 + 608 * c11) (c2 + 608 * c12) (c3 + 608 * c13) (c4 + 608 * c14) (c5 + 608 * c15) (c6 + 608 * c16) (c7 + 608 * c17) (c8 + 608 * c18) (c9 + 608 * c19) by
                have k0 : 0 ≤ c0 ∧ c0 ≤ 6710886500 := hbd 0 (by omega)
                have k1 : 0 ≤ c1 ∧ c1 ≤ 6710886500 := hbd 1 (by omega)
                have k2 : 0 ≤ c2 ∧ c2 ≤ 6710886500 := hbd 2 (by omega)
                have k3 : 0 ≤ c3 ∧ c3 ≤ 6710886500 := hbd 3 (by omega)
                have k4 : 0 ≤ c4 ∧ c4 ≤ 6710886500 := hbd 4 (by omega)
                have k5 : 0 ≤ c5 ∧ c5 ≤ 6710886500 := hbd 5 (by omega)
                have k6 : 0 ≤ c6 ∧ c6 ≤ 6710886500 := hbd 6 (by omega)
                have k7 : 0 ≤ c7 ∧ c7 ≤ 6710886500 := hbd 7 (by omega)
                have k8 : 0 ≤ c8 ∧ c8 ≤ 6710886500 := hbd 8 (by omega)
                have k9 : 0 ≤ c9 ∧ c9 ≤ 6710886500 := hbd 9 (by omega)
                have k10 : 0 ≤ c10 ∧ c10 ≤ 6710886500 := hbd 10 (by omega)
                have k11 : 0 ≤ c11 ∧ c11 ≤ 6710886500 := hbd 11 (by omega)
                have k12 : 0 ≤ c12 ∧ c12 ≤ 6710886500 := hbd 12 (by omega)
                have k13 : 0 ≤ c13 ∧ c13 ≤ 6710886500 := hbd 13 (by omega)
                have k14 : 0 ≤ c14 ∧ c14 ≤ 6710886500 := hbd 14 (by omega)
                have k15 : 0 ≤ c15 ∧ c15 ≤ 6710886500 := hbd 15 (by omega)
                have k16 : 0 ≤ c16 ∧ c16 ≤ 6710886500 := hbd 16 (by omega)
                have k17 : 0 ≤ c17 ∧ c17 ≤ 6710886500 := hbd 17 (by omega)
                have k18 : 0 ≤ c18 ∧ c18 ≤ 6710886500 := hbd 18 (by omega)
                have k19 : 0 ≤ c19 ∧ c19 ≤ 6710886500 := hbd 19 (by omega)
                unfold Near; omega)
              clear hB hbd
              go_wp2_with fail
              refine (carry_any _ _ _ [] (c0 + 608 * c10) (c1 + 608 * c11) (c2 + 608 * c12) (c3 + 608 * c13) (c4 + 608 * c14) (c5 + 608 * c15) (c6 + 608 * c16) (c7 + 608 * c17) (c8 + 608 * c18) (c9 + 608 * c19) hB2 (unhide HNR)).mono ?_
              rintro e w2 ⟨rfl, z0, z1, z2, z3, z4, z5, z6, z7, z8, z9, rfl, hin, q, hq⟩
              have HIN := hide hin
              have HQ := hide hq
              clear hin hq
              go_wp2
              go_ret
              have bw := unhide HBEL
              refine ⟨_, rfl, bw.size, below_row _ _ _ _ _ _ (below_adds (bw.alloc bw.size _) (by simp; have := bw.size; omega) _ _) bw.size, z0, z1, z2, z3, z4, z5, z6, z7, z8, z9, [], get_row _ _ _ _ _ _ hB2, unhide HIN, ?_⟩
              have e1 := fold_val c0 c1 c2 c3 c4 c5 c6 c7 c8 c9 c10 c11 c12 c13 c14 c15 c16 c17 c18 c19
              rw [unhide HVV, unhide HQ] at e1
              have e3 : V10 z0 z1 z2 z3 z4 z5 z6 z7 z8 z9 % pInt = (V10 x0 x1 x2 x3 x4 x5 x6 x7 x8 x9 * V10 y0 y1 y2 y3 y4 y5 y6 y7 y8 y9) % pInt := by rw [e1, Int.add_assoc, ← Int.mul_add, Int.add_mul_emod_self_left]
              rw [e3]
              exact mod_mul (unhide HXV) (unhide HYV)
end Go.Proofs.Ytncplefjokbbjaa
