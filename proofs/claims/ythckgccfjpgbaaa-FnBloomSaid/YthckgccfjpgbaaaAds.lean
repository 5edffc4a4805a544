/- BloomAdd: the specification's side. -/
import Derived.Test.YthckgccfjpgbaaaAdd
namespace Go.Proofs.Ythckgccfjpgbaaa
open Go.RowKit
set_option maxHeartbeats 4000000
set_option maxRecDepth 20000
theorem bitsOf_congr {W n : Nat} {f f' : Nat → Nat → Bool} (h : ∀ i j, i < n → j < W → f i j = f' i j) : bitsOf W n f = bitsOf W n f' := by
  unfold bitsOf
  apply List.map_congr_left
  intro k hk
  have hk := List.mem_range.1 hk
  have hw : 0 < W := by
    rcases Nat.eq_zero_or_pos W with rfl | h
    · simp at hk
    · exact h
  exact h _ _ (Nat.div_lt_of_lt_mul (by rw [Nat.mul_comm]; exact hk)) (Nat.mod_lt _ hw)
theorem bitsOf_self {W n : Nat} {B : List Bool} (h : B.length = n * W) : bitsOf W n (fun i j => B.getD (i * W + j) false) = B := by
  apply List.ext_getElem?
  intro k
  by_cases hk : k < n * W
  · unfold bitsOf
    rw [List.getElem?_map, List.getElem?_range hk]
    show some (B.getD (k / W * W + k % W) false) = _
    rw [show k / W * W + k % W = k by rw [Nat.mul_comm]; exact Nat.div_add_mod k W, List.getD_eq_getElem?_getD, List.getElem?_eq_getElem (by omega)]
    rfl
  · rw [List.getElem?_eq_none (by rw [bitsOf_len]; omega), List.getElem?_eq_none (by omega)]
theorem bitsOf_set {W n : Nat} {f : Nat → Nat → Bool} {i j : Nat} (hi : i < n) (hj : j < W) : (bitsOf W n f).set (i * W + j) true = bitsOf W n fun i' j' => f i' j' || (decide (i' = i) && decide (j' = j)) := by
  have hl : i * W + j < n * W := by
    have e1 : (i + 1) * W = i * W + W := by rw [Nat.add_mul]; omega
    have e2 : (i + 1) * W ≤ n * W := Nat.mul_le_mul_right _ (by omega)
    omega
  apply List.ext_getElem?
  intro k
  by_cases hk : k < n * W
  · have hp := place_at (i := i) (k := k) hj
    by_cases e : i * W + j = k
    · obtain ⟨e1, e2⟩ := hp.1 e
      rw [e, List.getElem?_set_self (by rw [bitsOf_len]; exact hk)]
      unfold bitsOf
      rw [List.getElem?_map, List.getElem?_range hk]
      show _ = some (_ || (decide (k / W = i) && decide (k % W = j)))
      rw [decide_eq_true e1.symm, decide_eq_true e2.symm]
      simp
    · rw [List.getElem?_set_ne e]
      unfold bitsOf
      rw [List.getElem?_map, List.getElem?_map, List.getElem?_range hk]
      show _ = some (_ || (decide (k / W = i) && decide (k % W = j)))
      rw [show (decide (k / W = i) && decide (k % W = j)) = false by rw [← Bool.not_eq_true]; simp; intro h1 h2; exact e (hp.2 ⟨h1.symm, h2.symm⟩), Bool.or_false]
      rfl
  · rw [List.getElem?_eq_none (by rw [List.length_set, bitsOf_len]; omega), List.getElem?_eq_none (by rw [bitsOf_len]; omega)]
theorem ownB.row {lo hi : Nat} {w : World} {A : Option Addr} {n c : Nat} {xs : List Bool} (h : ownB lo hi w (.slice A n c) xs) (h1 : 1 ≤ xs.length) : ∃ g rest, A = some ⟨g, 0, none⟩ ∧ n = xs.length ∧ lo ≤ g ∧ g < hi ∧ w.heap[g]? = some (bolO xs rest) ∧ xs.length ≤ c := by
  obtain ⟨_, rfl⟩ | ⟨g, cap, rest, e, hg, hh, hc, hcp⟩ := h
  · simp at h1
  · simp only [Value.slice.injEq] at e
    obtain ⟨rfl, rfl, rfl⟩ := e
    exact ⟨g, rest, rfl, rfl, hg, hh, hc, hcp⟩
theorem add18 (v : Value) (x : Blm) (tag : Int) (w : World) (hv : blmV w v x) (hn : x.s.length ≤ 2097152) (hn' : x.b.length ≤ 2097152) :
    Calls Try.prog 18 #[v, .int .i64 tag] w fun e w' => outX w (addR x tag).1 (addR x tag).2 e w' := by
  obtain ⟨a, b, rfl, ha, hb⟩ := hv
  obtain ⟨A, ca, rfl⟩ := ha.slice
  obtain ⟨A2, cb, rfl⟩ := hb.slice
  have B0 : Below w.heap.size w (w.alloc (.cells #[.int .i64 x.p, .int .i64 x.w, .slice A x.s.length ca, .slice A2 x.b.length cb] 26)) := bl_al (Below.refl _ _)
  have C0 := bc_new w x.p x.w (.slice A x.s.length ca) (.slice A2 x.b.length cb) 26
  have e0 : (w.alloc (.cells #[.int .i64 x.p, .int .i64 x.w, .slice A x.s.length ca, .slice A2 x.b.length cb] 26)).heap.size = w.heap.size + 1 := by simp
  have B1 := bl_al (o := (.cells #[.int .i64 0, .int .i64 0, .slice none 0 0, .slice none 0 0] 26)) B0
  have C1 := C0.below (bl_al (o := (.cells #[.int .i64 0, .int .i64 0, .slice none 0 0, .slice none 0 0] 26)) (Below.refl _ _))
  have N1 := hide (heap_alloc_new (w.alloc (.cells #[.int .i64 x.p, .int .i64 x.w, .slice A x.s.length ca, .slice A2 x.b.length cb] 26)) (.cells #[.int .i64 0, .int .i64 0, .slice none 0 0, .slice none 0 0] 26))
  have E1 : Hid (((w.alloc (.cells #[.int .i64 x.p, .int .i64 x.w, .slice A x.s.length ca, .slice A2 x.b.length cb] 26)).alloc (.cells #[.int .i64 0, .int .i64 0, .slice none 0 0, .slice none 0 0] 26)).heap.size = w.heap.size + 1 + 1) := hide (by simp)
  rw [e0] at N1
  have hx : blmV _ (bloV x.p x.w (.slice A x.s.length ca) (.slice A2 x.b.length cb)) x := ⟨_, _, rfl, ha.below B1, hb.below B1⟩
  have K1 := hide (code53 (bloV x.p x.w (.slice A x.s.length ca) (.slice A2 x.b.length cb)) x tag _ hx hn hn')
  have HC := hide C1
  have HX := hide hx
  have HB := hide B1
  have HA := hide (ha.below B1)
  have HBB := hide (hb.below B1)
  have HN := hide hn
  have HN' := hide hn'
  obtain ⟨_, c0, c1, c2, c3⟩ := C1
  clear B0 C0 e0 B1 ha hb
  rcases tagC_cases x tag with hc | hc | ⟨hc, hr, ht⟩
  iterate 2
    · have HE := hide (addR_code (show tagC x tag ≠ 0 by omega))
      rw [hc] at K1 HE
      clear hn hn' hx hc HX HA HBB HN HN'
      obtain ⟨p, wd, ss, bs⟩ := x
      dsimp only at *
      go_enter Try.func18, Try.ntmps18
      go_wp2_with fail
      generalize (w.alloc (.cells #[.int .i64 p, .int .i64 wd, .slice A ss.length ca, .slice A2 bs.length cb] 26)).alloc (.cells #[.int .i64 0, .int .i64 0, .slice none 0 0, .slice none 0 0] 26) = w2 at *
      refine (unhide K1).mono ?_
      rintro e w1 ⟨rfl, b1⟩
      have B1 := hide (bl_st b1 (unhide HB))
      have n1 := (b1.block _ (Array.getElem?_eq_some_iff.1 (unhide N1)).1).trans (unhide N1)
      have p0 : w1.cell? ⟨w.heap.size + 1, 0, none⟩ = some (.int .i64 0) := row_cell n1
      have y0 : w1.frozen? ⟨w.heap.size + 1, 0, none⟩ = false := row_free n1
      have p1 : w1.cell? ⟨w.heap.size + 1, 1, none⟩ = some (.int .i64 0) := row_cell n1
      have y1 : w1.frozen? ⟨w.heap.size + 1, 1, none⟩ = false := row_free n1
      have p2 : w1.cell? ⟨w.heap.size + 1, 2, none⟩ = some (.slice none 0 0) := row_cell n1
      have y2 : w1.frozen? ⟨w.heap.size + 1, 2, none⟩ = false := row_free n1
      have p3 : w1.cell? ⟨w.heap.size + 1, 3, none⟩ = some (.slice none 0 0) := row_cell n1
      have y3 : w1.frozen? ⟨w.heap.size + 1, 3, none⟩ = false := row_free n1
      have NN := hide n1
      clear b1 c0 c1 c2 c3 n1
      go_wp2
      rw [unhide HE]
      refine bodyPost_ret (results_tmp_row rfl _ _ (w.heap.size + 1) 26 _ (0, 0) _ _ rfl rfl (row_put4 (unhide NN) 0 0 (.slice none 0 0) (.slice none 0 0)) Try.underlying26 rfl (by kernel_rfl)) rfl ⟨_, rfl, own_noX _ _ _, bl_put4 (unhide B1) (by omega)⟩
  have HE := hide (addR_ok hc)
  rw [hc] at K1
  obtain ⟨M, hM⟩ : ∃ M : Nat, x.w = (M : Int) := ⟨x.w.toNat, by have := hr.w1; omega⟩
  have hMt : x.w.toNat = M := by omega
  have hbits := hr.bits
  rw [hM] at hbits
  have hbl : x.b.length = x.s.length * M := by rw [Nat.mul_comm]; exact_mod_cast hbits
  have b1' : 1 ≤ x.b.length := by have := hr.lt (i := 0) (j := 0) hr.s1 (by have := hr.w1; omega); omega
  have b256 : (x.b.length : Int) ≤ 256 := by have := hr.bits; have := mul_in hr.w1 hr.w64 (n := (x.s.length : Int)) (by have := hr.s1; omega) (by have := hr.s4; omega); omega
  have K2 := hide (fun W (h : blmV W (bloV x.p x.w (.slice A x.s.length ca) (.slice A2 x.b.length cb)) x) => own54 _ x W h (unhide HN) (unhide HN'))
  have K3 := hide (fun W (h : blmV W (bloV x.p x.w (.slice A x.s.length ca) (.slice A2 x.b.length cb)) x) i (hi : i < x.s.length) => place55 _ x i tag W h hr hi ht)
  have HPL : Hid (∀ i, i < x.s.length → (i : Int) * x.w + plc x.p x.w (x.s.getD i noA) tag = ((i * M + bi x tag i : Nat) : Int) ∧ i * M + bi x tag i < x.b.length ∧ bi x tag i < M) := hide fun i hi => by
    have h1 := plc_in (p := x.p) (x.s.getD i noA) tag hr.w1
    have h2 : bi x tag i < x.w.toNat := by unfold bi; omega
    have h3 := hr.lt hi h2
    rw [hMt] at h2 h3
    refine ⟨?_, h3, h2⟩
    rw [Int.natCast_add, Int.natCast_mul, hM]
    congr 1
    unfold bi
    rw [← hM, Int.toNat_of_nonneg h1.1]
  have HB0 : Hid (bitsOf M x.s.length (addF x tag 0) = x.b) := hide (by rw [bitsOf_congr (fun i j _ _ => addF_zero x tag i j), hMt]; exact bitsOf_self hbl)
  have HBS : Hid (∀ k, k < x.s.length → bi x tag k < M → (bitsOf M x.s.length (addF x tag k)).set (k * M + bi x tag k) true = bitsOf M x.s.length (addF x tag (k + 1))) := hide fun k hk hb => by
    rw [bitsOf_set hk hb]
    exact bitsOf_congr fun i j _ _ => addF_step x tag k i j
  have HAX : Hid (addX x tag = ⟨x.p, (M : Int), x.s, bitsOf M x.s.length (addF x tag x.s.length)⟩) := hide (by unfold addX; rw [hMt, hM])
  have nI : (x.s.length : Int) ≤ 4 := by have := hr.s4; omega
  have n0 : (0 : Int) ≤ (x.s.length : Int) := by omega
  rw [hM] at K3 HPL HC c1 K1 K2 HX
  clear hn hn' hx hc hr ht hMt hbits HA HBB
  generalize addF x tag = ff at *
  generalize bi x tag = bb at *
  generalize addX x tag = yy at *
  generalize hR : addR x tag = rr at *
  rw [unhide HE]
  clear HE
  have HBL := hide hbl
  have HB1 := hide b1'
  obtain ⟨y, hy⟩ : ∃ y, x = y := ⟨_, rfl⟩
  have hyp : x.p = y.p := by rw [hy]
  have HXY := hide hy
  obtain ⟨p, wd, ss, bs⟩ := x
  dsimp only at *
  subst hM
  clear hR hbl b1' hyp
  have HXY' := hide (unhide HXY)
  rw [hy] at K2 K3 HX
  clear hy HXY
  go_enter Try.func18, Try.ntmps18
  go_wp2_with fail
  generalize (w.alloc (.cells #[.int .i64 p, .int .i64 (M : Int), .slice A ss.length ca, .slice A2 bs.length cb] 26)).alloc (.cells #[.int .i64 0, .int .i64 0, .slice none 0 0, .slice none 0 0] 26) = w2 at *
  refine (unhide K1).mono ?_
  rintro e w1 ⟨rfl, b1⟩
  have B1 := hide (bl_st b1 (unhide HB))
  have C1 := hide ((unhide HC).below b1)
  have X1 := hide ((unhide HX).below b1)
  have NN := hide ((b1.block _ (Array.getElem?_eq_some_iff.1 (unhide N1)).1).trans (unhide N1))
  have L1 := hide (show w.heap.size + 1 + 1 ≤ w1.heap.size by have := b1.size; have := unhide E1; omega)
  clear b1 c0 c1 c2 c3 K1 HC HX HB N1 E1
  obtain ⟨_, c0, c1, c2, c3⟩ := unhide C1
  go_wp2_with fail
  refine (unhide K2 w1 (unhide X1)).mono ?_
  rintro e w3 ⟨r, rfl, ox, b3⟩
  rw [← unhide HXY'] at ox
  obtain ⟨a3, b3v, rfl, oa, ob, hap⟩ := ox
  dsimp only at oa ob
  obtain ⟨D1, k1, rfl⟩ := oa.salts.slice
  obtain ⟨D2, k2, rfl⟩ := ob.bools.slice
  obtain ⟨g, rest, hD2, _, hg1, hg2, hg, hcap⟩ := ob.row (unhide HB1)
  subst hD2
  have BA : Below w3.heap.size w3 (w3.alloc (.cells #[.int .i64 p, .int .i64 (M : Int), .slice D1 ss.length k1, .slice (some ⟨g, 0, none⟩) bs.length k2] 26)) := bl_al (Below.refl _ _)
  have D := bc_new w3 p (M : Int) (.slice D1 ss.length k1) (.slice (some ⟨g, 0, none⟩) bs.length k2) 26
  have HD := hide D
  have HNO := hide (heap_alloc_new w3 (.cells #[.int .i64 p, .int .i64 (M : Int), .slice D1 ss.length k1, .slice (some ⟨g, 0, none⟩) bs.length k2] 26))
  have B3 := hide (bl_st BA b3)
  have OA := hide (oa.below BA)
  have HG := hide ((BA.block g (Array.getElem?_eq_some_iff.1 hg).1).trans hg)
  have HG1 := hide hg1
  have HG2 := hide hg2
  have HAP := hide hap
  have HCAP := hide hcap
  have L3 := hide b3.size
  clear oa ob hap hg hg1 hg2 hcap BA c0 c1 c2 c3 K2
  obtain ⟨_, d0, d1, d2, d3⟩ := D
  clear b3
  go_wp2
  generalize hw4 : w3.alloc (.cells #[.int .i64 p, .int .i64 (M : Int), .slice D1 ss.length k1, .slice (some ⟨g, 0, none⟩) bs.length k2] 26) = w4 at *
  have L4 : Hid (w4.heap.size = w3.heap.size + 1) := hide (by rw [← hw4]; simp)
  clear hw4 d0 d1 d2 d3
  go_loopw [8] (fun i wr => ∃ k : Nat, k ≤ ss.length ∧ i = .int .i64 k ∧ wr.heap[g]? = some (bolO (bitsOf M ss.length (ff k)) rest) ∧ Lone g w4 wr) (fun i _ => ss.length - (intOf i).toNat)
  case atStart => exact ⟨0, by omega, rfl, by rw [unhide HB0]; exact unhide HG, Lone.refl _ _⟩
  case round =>
    obtain ⟨k, hk, rfl, hg, hlo⟩ := hrel
    have hb1 : Below w1.heap.size w1 wr := hlo.below (unhide B3) (unhide HG1) (by have := unhide L3; have := unhide L4; omega)
    have C5 := hide ((unhide C1).below hb1)
    have D5 := hide ((unhide HD).lone hlo (by have := unhide HG2; omega))
    have X5 := hide ((unhide X1).below hb1)
    obtain ⟨_, c0, c1, c2, c3⟩ := unhide C5
    by_cases hlt : k < ss.length
    · obtain ⟨hm, hmb, hbk⟩ := unhide HPL k hlt
      have K4 := hide (fun W h => unhide K3 W h k hlt)
      rw [← unhide HXY'] at K4
      try dsimp only at K4
      rw [hm] at K4
      have hmb2 : k * M + bb k < (bitsOf M ss.length (ff k)).length := by rw [bitsOf_len, ← unhide HBL]; exact hmb
      have q1 : (k : Int) < (ss.length : Int) := by omega
      have q0 : (0 : Int) ≤ (k : Int) := by omega
      have m1 : ((k * M + bb k : Nat) : Int) < (bs.length : Int) := by exact_mod_cast hmb
      have m0 : (0 : Int) ≤ ((k * M + bb k : Nat) : Int) := Int.natCast_nonneg _
      have HG6 := hide (fun (W : World) (h : W.heap[g]? = some (bolO (bitsOf M ss.length (ff k)) rest)) => set_bolO h (k * M + bb k) true hmb2)
      rw [unhide HBS k hlt hbk] at HG6
      have HG7 := hide (fun (W : World) (h : W.heap[g]? = some (bolO (bitsOf M ss.length (ff k)) rest)) => And.intro (cell_bolO h (k * M + bb k) hmb2) (free_bolO h (k * M + bb k)))
      have HGK := hide hg
      have HLO := hide hlo
      have HJ := hide hlt
      have HB5 := hide hb1
      have LGK := hide (Array.getElem?_eq_some_iff.1 hg).1
      clear hlt hk hm hmb hbk hg hlo hmb2 hb1
      generalize (bitsOf M ss.length (ff k)).getD (k * M + bb k) false = old at *
      generalize k * M + bb k = m at *
      go_wp2
      clear c0 c1 c2 c3
      refine wp_region_held (S := fun W' => BC w.heap.size p (M : Int) (.slice A ss.length ca) (.slice A2 bs.length cb) W' ∧ BC w3.heap.size p (M : Int) (.slice D1 ss.length k1) (.slice (some ⟨g, 0, none⟩) bs.length k2) W') (by kernel_rfl) ?_
      have hS0 : BC w.heap.size p (M : Int) (.slice A ss.length ca) (.slice A2 bs.length cb) { wr with drawn := wr.drawn + 1 } ∧ BC w3.heap.size p (M : Int) (.slice D1 ss.length k1) (.slice (some ⟨g, 0, none⟩) bs.length k2) { wr with drawn := wr.drawn + 1 } := ⟨(unhide C5).below (below_drewN (Below.refl _ _) 1), (unhide D5).below (below_drewN (Below.refl _ _) 1)⟩
      refine wpAnyH_take (i := 0) (oi := { dst := some 25, op := Op.fieldAddr 26 (Operand.tmp 7) 3, type := 0, pos := "l10_bloom.go:87", after := #[], guard := none }) (v := ?_) rfl (by kernel_rfl) (by kernel_rfl) (by kernel_rfl) (fun _ _ _ h => h) (Or.inl ⟨by rfl, ?_⟩) hS0 ?_
      rotate_left
      · intro W hSw
        obtain ⟨_, c0, c1, c2, c3⟩ := hSw.1
        obtain ⟨_, d0, d1, d2, d3⟩ := hSw.2
        go_simp
        try with_reducible rfl
      simp only [Act.put, List.setIfInBounds_toArray, List.set_cons_zero, List.set_cons_succ]
      refine wpAnyH_take (i := 1) (oi := { dst := some 26, op := Op.load 24 (Operand.tmp 25), type := 24, pos := "l10_bloom.go:87", after := #[{ on := 0, ground := Ground.data }], guard := none }) (v := ?_) rfl (by kernel_rfl) (by kernel_rfl) (by kernel_rfl) (fun _ _ _ h => h) (Or.inl ⟨by rfl, ?_⟩) hS0 ?_
      rotate_left
      · intro W hSw
        obtain ⟨_, c0, c1, c2, c3⟩ := hSw.1
        obtain ⟨_, d0, d1, d2, d3⟩ := hSw.2
        go_simp
        try with_reducible rfl
      simp only [Act.put, List.setIfInBounds_toArray, List.set_cons_zero, List.set_cons_succ]
      refine wpAnyH_take (i := 2) (oi := { dst := some 27, op := Op.load 26 (Operand.tmp 2), type := 26, pos := "l10_bloom.go:87", after := #[], guard := none }) (v := ?_) rfl (by kernel_rfl) (by kernel_rfl) (by kernel_rfl) (fun _ _ _ h => h) (Or.inl ⟨by rfl, ?_⟩) hS0 ?_
      rotate_left
      · intro W hSw
        obtain ⟨_, c0, c1, c2, c3⟩ := hSw.1
        obtain ⟨_, d0, d1, d2, d3⟩ := hSw.2
        go_simp
        try with_reducible rfl
      simp only [Act.put, List.setIfInBounds_toArray, List.set_cons_zero, List.set_cons_succ]
      refine wpAnyH_take (i := 3) (oi := { dst := some 28, op := Op.move (Operand.tmp 8), type := 3, pos := "l10_bloom.go:87", after := #[], guard := none }) (v := ?_) rfl (by kernel_rfl) (by kernel_rfl) (by kernel_rfl) (fun _ _ _ h => h) (Or.inl ⟨by rfl, ?_⟩) hS0 ?_
      rotate_left
      · intro W hSw
        obtain ⟨_, c0, c1, c2, c3⟩ := hSw.1
        obtain ⟨_, d0, d1, d2, d3⟩ := hSw.2
        go_simp
        try with_reducible rfl
      simp only [Act.put, List.setIfInBounds_toArray, List.set_cons_zero, List.set_cons_succ]
      refine wpAnyH_take (i := 4) (oi := { dst := some 29, op := Op.move (Operand.tmp 1), type := 3, pos := "l10_bloom.go:87", after := #[], guard := none }) (v := ?_) rfl (by kernel_rfl) (by kernel_rfl) (by kernel_rfl) (fun _ _ _ h => h) (Or.inl ⟨by rfl, ?_⟩) hS0 ?_
      rotate_left
      · intro W hSw
        obtain ⟨_, c0, c1, c2, c3⟩ := hSw.1
        obtain ⟨_, d0, d1, d2, d3⟩ := hSw.2
        go_simp
        try with_reducible rfl
      simp only [Act.put, List.setIfInBounds_toArray, List.set_cons_zero, List.set_cons_succ]
      refine wpAnyH_one (i := 5) (by kernel_rfl) ?_
      refine wpOp_step (o := { dst := some 30, op := Op.call { callee := Callee.value (Operand.func 55), args := #[Operand.tmp 27, Operand.tmp 28, Operand.tmp 29], argTypes := #[26, 3, 3] }, type := 3, pos := "l10_bloom.go:87", after := #[{ on := 2, ground := Ground.data }, { on := 3, ground := Ground.data }, { on := 4, ground := Ground.data }], guard := none }) rfl fun K' hK => step_enterW (by rfl) 55 #[bloV p (M : Int) (.slice A ss.length ca) (.slice A2 bs.length cb), .int .i64 (k : Int), .int .i64 tag] (by go_simp) ((unhide K4 _ (unhide HXY' ▸ (unhide X5).below (below_drewN (Below.refl _ _) 1))).mono ?_)
      rintro e w6 ⟨rfl, b6⟩
      have b65 : Below wr.heap.size wr w6 := bl_st b6 (below_drewN (Below.refl _ _) 1)
      have s6 : BC w.heap.size p (M : Int) (.slice A ss.length ca) (.slice A2 bs.length cb) w6 ∧ BC w3.heap.size p (M : Int) (.slice D1 ss.length k1) (.slice (some ⟨g, 0, none⟩) bs.length k2) w6 := ⟨(unhide C5).below b65, (unhide D5).below b65⟩
      have g6 := (b65.block g (unhide LGK)).trans (unhide HGK)
      have G6 := hide (unhide HG6 w6 g6)
      have G7 := hide (unhide HG7 w6 g6)
      have L6 := hide ((unhide HLO).trans (Lone.of_below b65))
      clear b6 b65 g6
      refine ⟨_, rfl, hK _ _ ⟨s6, ?_⟩⟩
      simp only [Act.put, List.setIfInBounds_toArray, List.set_cons_zero, List.set_cons_succ]
      refine wpAnyH_take (i := 6) (oi := { dst := some 31, op := Op.indexAddr 24 (Operand.tmp 26) (Operand.tmp 30), type := 0, pos := "l10_bloom.go:87", after := #[{ on := 1, ground := Ground.data }, { on := 5, ground := Ground.data }, { on := 0, ground := Ground.phase }, { on := 1, ground := Ground.phase }, { on := 2, ground := Ground.phase }, { on := 3, ground := Ground.phase }, { on := 4, ground := Ground.phase }, { on := 5, ground := Ground.phase }], guard := none }) (v := ?_) rfl (by kernel_rfl) (by kernel_rfl) (by kernel_rfl) (fun _ _ _ h => h) (Or.inl ⟨by rfl, ?_⟩) s6 ?_
      rotate_left
      · intro W hSw
        obtain ⟨_, c0, c1, c2, c3⟩ := hSw.1
        obtain ⟨_, d0, d1, d2, d3⟩ := hSw.2
        go_simp
        try with_reducible rfl
      simp only [Act.put, List.setIfInBounds_toArray, List.set_cons_zero, List.set_cons_succ]
      obtain ⟨p1, p2⟩ := unhide G7
      have z6 : BC w.heap.size p (M : Int) (.slice A ss.length ca) (.slice A2 bs.length cb) (w6.setCell ⟨g, m, none⟩ (.bool true)) ∧ BC w3.heap.size p (M : Int) (.slice D1 ss.length k1) (.slice (some ⟨g, 0, none⟩) bs.length k2) (w6.setCell ⟨g, m, none⟩ (.bool true)) := ⟨s6.1.set (by have := unhide HG1; have := unhide L1; omega), s6.2.set (by have := unhide HG2; omega)⟩
      have L7 := hide ((unhide L6).trans (lone_setCell g m w6 (.bool true)))
      refine wpAnyH_one (i := 7) (by kernel_rfl) ?_
      refine wpOp_step (o := { dst := none, op := Op.store 4 (Operand.tmp 31) (Operand.const (Value.bool true)), type := 0, pos := "l10_bloom.go:87", after := #[{ on := 6, ground := Ground.data }, { on := 5, ground := Ground.chain }, { on := 0, ground := Ground.phase }, { on := 1, ground := Ground.phase }, { on := 2, ground := Ground.phase }, { on := 3, ground := Ground.phase }, { on := 4, ground := Ground.phase }, { on := 5, ground := Ground.phase }], guard := none }) rfl fun K' hK => step_skipW (by rfl) (w6.setCell ⟨g, m, none⟩ (.bool true)) (by go_simp) ?_
      refine hK _ _ ⟨z6, ?_⟩
      try simp only [Act.put]
      refine wpAnyH_done (by kernel_rfl) ?_ _
      clear s6 z6 hS0 p1 p2 G7 L6
      generalize w6.setCell ⟨g, m, none⟩ (.bool true) = w7 at *
      go_wp2
      go_roundw
      case rel => exact ⟨k + 1, unhide HJ, by go_num, unhide G6, unhide L7⟩
      case measure => have := unhide HJ; simp [intOf]; omega
    · obtain rfl : k = ss.length := by omega
      have l1 := unhide L1
      have l3 := unhide L3
      have l4 := unhide L4
      have hg1 := unhide HG1
      have hg2 := unhide HG2
      have n2 := (hlo.block (w.heap.size + 1) (by omega) (by omega)).trans ((by have := (unhide B3).block (w.heap.size + 1) (by omega); exact this.trans (unhide NN) : w4.heap[w.heap.size + 1]? = _))
      have nd := (hlo.block w3.heap.size (unhide HD).lt (by omega)).trans (unhide HNO)
      have OA5 := hide ((unhide OA).loneN hlo (fun g' h e => unhide HAP g' h (by rw [← e]; rfl)))
      have HG5 := hide hg
      have HL := hide hlo.size
      have HBW := hide (bl_st hb1 (unhide B1))
      clear c0 c1 c2 c3
      obtain ⟨_, c0, c1, c2, c3⟩ := unhide C5
      obtain ⟨_, d0, d1, d2, d3⟩ := bc_row nd
      have p0 : wr.cell? ⟨w.heap.size + 1, 0, none⟩ = some (.int .i64 0) := row_cell n2
      have y0 : wr.frozen? ⟨w.heap.size + 1, 0, none⟩ = false := row_free n2
      have p1 : wr.cell? ⟨w.heap.size + 1, 1, none⟩ = some (.int .i64 0) := row_cell n2
      have y1 : wr.frozen? ⟨w.heap.size + 1, 1, none⟩ = false := row_free n2
      have p2 : wr.cell? ⟨w.heap.size + 1, 2, none⟩ = some (.slice none 0 0) := row_cell n2
      have y2 : wr.frozen? ⟨w.heap.size + 1, 2, none⟩ = false := row_free n2
      have p3 : wr.cell? ⟨w.heap.size + 1, 3, none⟩ = some (.slice none 0 0) := row_cell n2
      have y3 : wr.frozen? ⟨w.heap.size + 1, 3, none⟩ = false := row_free n2
      have N2 := hide n2
      clear hlt hg hlo hb1 n2 nd
      go_wp2
      refine bodyPost_ret (results_tmp_row rfl _ _ (w.heap.size + 1) 26 _ (0, 0) _ _ rfl rfl (row_put4 (unhide N2) p (M : Int) (.slice D1 ss.length k1) (.slice (some ⟨g, 0, none⟩) bs.length k2)) Try.underlying26 rfl (by kernel_rfl)) rfl ⟨_, rfl, ?_, bl_put4 (unhide HBW) (by omega)⟩
      rw [unhide HAX]
      have hl := unhide HL
      refine ⟨_, _, rfl, ?_, ?_, unhide HAP⟩
      · refine ((unhide OA5).lone (lone_put4 wr (w.heap.size + 1) p (M : Int) _ _) (by omega)).wide (by omega) ?_
        rw [size_put4]; omega
      · have hn : w.heap.size + 1 ≠ g := by omega
        refine .inr ⟨g, k2, rest, ?_, by omega, ?_, ?_, ?_⟩
        · rw [bitsOf_len, unhide HBL]
        · rw [size_put4]; omega
        · exact row_set_other (row_set_other (row_set_other (row_set_other (unhide HG5) hn) hn) hn) hn
        · rw [bitsOf_len, ← unhide HBL]; exact unhide HCAP
end Go.Proofs.Ythckgccfjpgbaaa
