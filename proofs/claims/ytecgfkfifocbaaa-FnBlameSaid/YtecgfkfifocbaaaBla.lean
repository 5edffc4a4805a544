/- Who is blamed: the specification's side. -/
import Derived.Test.YtecgfkfifocbaaaFnd
import Derived.Test.YtecgfkfifocbaaaLss
namespace Go.Proofs.Ytecgfkfifocbaaa
open Go.RowKit
set_option maxHeartbeats 4000000
set_option maxRecDepth 20000
/-- a hop that had its form, and behind it the next one is not there -/
def badH (ts : List ByteArray) (xss : List (List ByteArray)) (h : Nat) : Bool := inB (ts.getD h noS) (xss.getD h []) && !inB (ts.getD (h + 1) noS) (xss.getD (h + 1) [])
/-- the first such hop -/
def blF (P : Nat → Bool) : Nat → Nat → Int × Bool
  | 0, _ => (0, false)
  | f + 1, h => if P h then ((h : Int), true) else blF P f (h + 1)
def blm (ts : List ByteArray) (xss : List (List ByteArray)) : Int × Bool := blF (badH ts xss) (ts.length - 1) 0
theorem blF_yes (P : Nat → Bool) (f h : Nat) (hp : P h = true) (hf : 0 < f) : blF P f h = ((h : Int), true) := by
  obtain ⟨k, rfl⟩ : ∃ k, f = k + 1 := ⟨f - 1, by omega⟩
  rw [blF, if_pos hp]
theorem blF_no (P : Nat → Bool) (f h : Nat) (hp : P h = false) (hf : 0 < f) : blF P f h = blF P (f - 1) (h + 1) := by
  obtain ⟨k, rfl⟩ : ∃ k, f = k + 1 := ⟨f - 1, by omega⟩
  rw [blF, if_neg (by rw [hp]; decide)]
  rfl
theorem put2 {w : World} {g : Nat} {a b : Value} {t : TypeId} (h : w.heap[g]? = some (.cells #[a, b] t (0, 0))) (x y : Value) : ((w.setCell ⟨g, 0, none⟩ x).setCell ⟨g, 1, none⟩ y).heap[g]? = some (.cells #[x, y] t (0, 0)) := by
  simp [World.setCell, Array.getElem?_modify, h]
/-- the lists within are short -/
def shortL (xss : List (List ByteArray)) : Prop := ∀ i, i < xss.length → (xss.getD i []).length ≤ 2097152
theorem blame24 (v vb : Value) (ts : List ByteArray) (xss : List (List ByteArray)) (w : World) (hv : strsV w v ts) (hb : lssV w vb xss) (hl : ts.length = xss.length) (hn : ts.length ≤ 4096) (hs : shortL xss) :
    Calls Try.prog 24 #[v, vb] w fun e w' => e = .returned (.agg #[.int .i64 (blm ts xss).1, .bool (blm ts xss).2]) ∧ Below w.heap.size w w' := by
  obtain ⟨A, ca, rfl, hc⟩ := hv
  obtain ⟨A2, cb, rfl, hd⟩ := hb
  have HC := hide hc
  have HD := hide hd
  have HS := hide hs
  rw [← hl] at HD ⊢
  have HL := hide hl
  have HBL : Hid (blm ts xss = blF (badH ts xss) (ts.length - 1) 0) := hide rfl
  generalize blm ts xss = R at *
  obtain ⟨N, hN⟩ : ∃ N, N = ts.length := ⟨_, rfl⟩
  rw [← hN] at hn HC HD HL HBL ⊢
  clear hc hd hl hs hN
  have n0 : (0 : Int) ≤ (N : Int) := by omega
  have n1 : (N : Int) ≤ 4096 := by omega
  have N1 : Hid (Below w.heap.size w (w.alloc (.cells #[.int .i64 0, .bool false] 32)) ∧ (w.alloc (.cells #[.int .i64 0, .bool false] 32)).heap[w.heap.size]? = some (.cells #[.int .i64 0, .bool false] 32 (0, 0))) := hide ⟨bl_al (Below.refl _ _), heap_at _ _ _ rfl⟩
  clear hn
  go_enter Try.func24, Try.ntmps24
  go_wp2
  generalize w.alloc (.cells #[.int .i64 0, .bool false] 32) = w1 at *
  go_loopw [5] (fun i wr => ∃ j k : Nat, j ≤ N - 1 ∧ i = .int .i64 j ∧ blF (badH ts xss) (N - 1 - j) j = R ∧ wr = w1.drewN k) (fun i _ => N - 1 - (intOf i).toNat)
  case atStart => exact ⟨0, 0, Nat.zero_le _, rfl, (unhide HBL).symm, rfl⟩
  case round =>
    obtain ⟨j, kk, hj, rfl, hR, hwr⟩ := hrel
    have hbw : Below w.heap.size w wr := by rw [hwr]; exact below_drewN (unhide N1).1 kk
    have hgw : wr.heap[w.heap.size]? = some (.cells #[.int .i64 0, .bool false] 32 (0, 0)) := by rw [hwr]; exact (unhide N1).2
    have d0 : wr.cell? ⟨w.heap.size, 0, none⟩ = some (.int .i64 0) := row_cell hgw
    have d1 : wr.cell? ⟨w.heap.size, 1, none⟩ = some (.bool false) := row_cell hgw
    have f0 := row_free (i := 0) hgw
    have f1 := row_free (i := 1) hgw
    have HGW := hide hgw
    have HBW := hide hbw
    have HWR := hide hwr
    have q0 : (0 : Int) ≤ (j : Int) := by omega
    obtain ⟨k, hk⟩ : ∃ k : Nat, k = j + 1 := ⟨_, rfl⟩
    have q4 : (0 : Int) ≤ (k : Int) := by omega
    have q5 : (j : Int) + 1 = (k : Int) := by omega
    have q6 : IntKind.i64.wrap (k : Int) = (k : Int) := by rw [IntKind.wrap_i64]; omega
    by_cases hlt : j < N - 1
    · obtain ⟨b1, o1, hA, hb1, hc1⟩ := unhide HC (by omega)
      obtain ⟨b2, o2, hA2, hb2, hc2⟩ := unhide HD (by omega)
      subst hA hA2
      have q2 : (j : Int) < (N : Int) := by omega
      have q3 : (k : Int) < (N : Int) := by omega
      obtain ⟨u1, r1, v1⟩ := hc2 j (by omega)
      obtain ⟨u2, r2, v2⟩ := hc2 k (by omega)
      have p1 : wr.cell? ⟨b1, o1 + j, none⟩ = some (.string (ts.getD j noS)) := (cell_below hbw hb1).trans (hc1 j (by omega))
      have p2 : wr.cell? ⟨b1, o1 + k, none⟩ = some (.string (ts.getD k noS)) := (cell_below hbw hb1).trans (hc1 k (by omega))
      have p3 : wr.cell? ⟨b2, o2 + j, none⟩ = some u1 := (cell_below hbw hb2).trans r1
      have p4 : wr.cell? ⟨b2, o2 + k, none⟩ = some u2 := (cell_below hbw hb2).trans r2
      have l1 := unhide HS j (by rw [← unhide HL]; omega)
      have l2 := unhide HS k (by rw [← unhide HL]; omega)
      have hbad : badH ts xss j = (inB (ts.getD j noS) (xss.getD j []) && !inB (ts.getD k noS) (xss.getD k [])) := by rw [hk]; rfl
      have K1 := hide (show ∀ m, Calls Try.prog 21 #[u1, .string (ts.getD j noS)] (wr.drewN m) fun e w' => e = .returned (.int .i64 (fI (ts.getD j noS) (xss.getD j []) 0)) ∧ w' = wr.drewN m from fun m => find21 u1 _ _ _ ((v1.below hbw).drewN m) l1)
      have K2 := hide (show ∀ m, Calls Try.prog 21 #[u2, .string (ts.getD k noS)] (wr.drewN m) fun e w' => e = .returned (.int .i64 (fI (ts.getD k noS) (xss.getD k []) 0)) ∧ w' = wr.drewN m from fun m => find21 u2 _ _ _ ((v2.below hbw).drewN m) l2)
      have g1 := fI_mem (ts.getD j noS) (xss.getD j []) 0 (Int.le_refl _)
      have g2 := fI_mem (ts.getD k noS) (xss.getD k []) 0 (Int.le_refl _)
      have HR := hide hR
      have HJ := hide hlt
      have HK := hide hk
      obtain ⟨Au, cu, rfl, _⟩ := v1
      obtain ⟨Av, cv, rfl, _⟩ := v2
      generalize fI (ts.getD j noS) (xss.getD j []) 0 = k1 at *
      generalize fI (ts.getD k noS) (xss.getD k []) 0 = k2 at *
      generalize inB (ts.getD j noS) (xss.getD j []) = i1 at *
      generalize inB (ts.getD k noS) (xss.getD k []) = i2 at *
      generalize (xss.getD j []).length = m1 at *
      generalize (xss.getD k []).length = m2 at *
      generalize ts.getD j noS = s1 at *
      generalize ts.getD k noS = s2 at *
      clear hc1 hc2 hlt hj hR hbw hgw r1 r2 l1 l2 hb1 hb2 hk hwr
      have HNX : Hid (badH ts xss j = false → blF (badH ts xss) (N - 1 - k) k = R) := hide fun hb => by
        have h := blF_no (badH ts xss) (N - 1 - j) j hb (by have := unhide HJ; omega)
        rw [unhide HR] at h
        rw [h, unhide HK]
        congr 1
      have HYS : Hid (badH ts xss j = true → R = ((j : Int), true)) := hide fun hb => by
        have h := blF_yes (badH ts xss) (N - 1 - j) j hb (by have := unhide HJ; omega)
        rwa [unhide HR] at h
      rcases g1 with ⟨e1, e2⟩ | ⟨e1, e2⟩
      · subst e1 e2
        go_wp2
        go_quiet (first | (go_at_call_of 21 (Value.slice Au m1 cu); refine Calls.quiet_of_same (unhide K1 _)) | (go_at_call_of 21 (Value.slice Av m2 cv); refine Calls.quiet_of_same (unhide K2 _)))
        clear p1 p2 p3 p4 K1 K2
        go_wp2
        go_roundw
        case rel => exact ⟨k, kk + nq, by have := unhide HK; have := unhide HJ; omega, rfl, unhide HNX (by rw [hbad]; rfl), by rw [unhide HWR, World.drewN_drewN]⟩
        case measure => have := unhide HK; have := unhide HJ; simp [intOf]; omega
      · subst e2
        rcases g2 with ⟨e3, e4⟩ | ⟨e3, e4⟩
        · subst e3 e4
          go_wp2
          go_quiet (first | (go_at_call_of 21 (Value.slice Au m1 cu); refine Calls.quiet_of_same (unhide K1 _)) | (go_at_call_of 21 (Value.slice Av m2 cv); refine Calls.quiet_of_same (unhide K2 _)))
          have HE := hide (unhide HYS (by rw [hbad]; rfl))
          have x0 : (wr.drewN nq).cell? ⟨w.heap.size, 0, none⟩ = some (.int .i64 0) := d0
          have x1 : (wr.drewN nq).cell? ⟨w.heap.size, 1, none⟩ = some (.bool false) := d1
          have y0 : (wr.drewN nq).frozen? ⟨w.heap.size, 0, none⟩ = false := f0
          have y1 : (wr.drewN nq).frozen? ⟨w.heap.size, 1, none⟩ = false := f1
          have HG := hide (show (wr.drewN nq).heap[w.heap.size]? = some (.cells #[.int .i64 0, .bool false] 32 (0, 0)) from unhide HGW)
          have HB := hide (below_drewN (unhide HBW) nq)
          clear p1 p2 p3 p4 K1 K2 d0 d1 f0 f1 HGW HBW HWR
          generalize wr.drewN nq = w5 at *
          go_wp2
          refine bodyPost_ret (v := .agg #[.int .i64 (j : Int), .bool true]) (results_cell_row rfl _ _ w.heap.size 32 #[.int .i64 (j : Int), .bool true] (0, 0) _ rfl (put2 (unhide HG) _ _) Try.underlying32 rfl (by kernel_rfl)) rfl ⟨by rw [unhide HE], bl_set (bl_set (unhide HB) (Nat.le_refl _)) (Nat.le_refl _)⟩
        · subst e4
          go_wp2
          go_quiet (first | (go_at_call_of 21 (Value.slice Au m1 cu); refine Calls.quiet_of_same (unhide K1 _)) | (go_at_call_of 21 (Value.slice Av m2 cv); refine Calls.quiet_of_same (unhide K2 _)))
          clear p1 p2 p3 p4 K1 K2
          go_wp2
          go_roundw
          case rel => exact ⟨k, kk + nq, by have := unhide HK; have := unhide HJ; omega, rfl, unhide HNX (by rw [hbad]; rfl), by rw [unhide HWR, World.drewN_drewN]⟩
          case measure => have := unhide HK; have := unhide HJ; simp [intOf]; omega
    · have q2 : (N : Int) ≤ (k : Int) := by omega
      have HE : Hid (R = (0, false)) := hide (by
        rw [show N - 1 - j = 0 by omega] at hR
        exact hR.symm)
      clear hlt hj hR hbw hgw hk hwr HWR
      go_wp2
      refine bodyPost_ret (v := .agg #[.int .i64 0, .bool false]) (results_cell_row rfl _ _ w.heap.size 32 #[.int .i64 0, .bool false] (0, 0) _ rfl (put2 (unhide HGW) _ _) Try.underlying32 rfl (by kernel_rfl)) rfl ⟨by rw [unhide HE], bl_set (bl_set (unhide HBW) (Nat.le_refl _)) (Nat.le_refl _)⟩
end Go.Proofs.Ytecgfkfifocbaaa
