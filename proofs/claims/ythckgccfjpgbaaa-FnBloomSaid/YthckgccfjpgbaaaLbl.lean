/- Filters: what is added stands, a merged filter holds both: the law of it, walked. -/
import Derived.Test.YthckgccfjpgbaaaSbo
import Derived.Test.YthckgccfjpgbaaaCodeOf
import Derived.Test.YthckgccfjpgbaaaNes
namespace Go.Proofs.Ythckgccfjpgbaaa
open Go.RowKit
set_option maxHeartbeats 4000000
set_option maxRecDepth 20000
theorem grown_lone {w w' : World} {q : Nat} (h : w.grownBy w' (some q)) : Lone q w w' := ⟨h.os, h.tape, h.output, h.size, fun k hk hne => h.block k hk (by simp; exact hne)⟩
theorem bits_of {lo hi : Nat} {w : World} {p wd : Int} {a b : Value} {x : Blm} (h : ownX lo hi w (bloV p wd a b) x) : boolsV w b x.b := by
  obtain ⟨a', b', e, _, h2, _⟩ := h
  simp at e
  obtain ⟨_, _, rfl, rfl⟩ := e
  exact h2.bools
theorem law_filter (w : World) (A : Option Addr) (n cap : Nat) (hn : n ≤ maxLen) (hA : codeAt w A n) (B : Option Addr) (m cb : Nat) (hm : m ≤ maxLen) (hB : codeAt w B m) :
    Calls Try.prog 3 #[.slice A n cap, .slice B m cb] w fun e w' => e = .returned (.bool true) ∧ Below w.heap.size w w' := by
  have KD := hide (drawn13 w A n cap hn hA)
  unfold maxLen at hn hm
  by_cases h1 : 1048576 < n
  · have q : (1048576 : Int) < (n : Int) := by omega
    have q2 : (n : Int) ≤ 9223372036854775807 := by omega
    clear h1 hn hA hB hm
    go_enter Try.func3, Try.ntmps3
    go_wp2
    go_ret
    exact ⟨rfl, Below.refl _ _⟩
  have q1 : (n : Int) ≤ 1048576 := by omega
  have t1 : decide ((1048576 : Int) < (n : Int)) = false := decide_eq_false (by omega)
  by_cases h2 : 1048576 < m
  · have q : (1048576 : Int) < (m : Int) := by omega
    have q2 : (m : Int) ≤ 9223372036854775807 := by omega
    clear h1 h2 hn hA hB hm
    go_enter Try.func3, Try.ntmps3
    go_wp2
    go_ret
    exact ⟨rfl, Below.refl _ _⟩
  have q2 : (m : Int) ≤ 1048576 := by omega
  have t2 : decide ((1048576 : Int) < (m : Int)) = false := decide_eq_false (by omega)
  have HAT : Hid (∀ (i N : Nat) W, i ≤ 1000 → 1 ≤ N → N ≤ 65536 → Below w.heap.size w W → Calls Try.prog 16 #[.slice B m cb, .int .i64 i, .int .i64 N] W fun e w' => ∃ v : Nat, e = .returned (.int .i64 v) ∧ v < N ∧ Below W.heap.size W w') := hide fun i N W h1 h2 h3 hb => at_one W B m cb i N (by omega) h1 h2 h3 (codeAt_below hB hb)
  clear h1 h2 hn hm hA hB
  go_enter Try.func3, Try.ntmps3
  go_wp2_with fail
  refine (unhide KD).mono ?_
  rintro e w1 ⟨v, x, rfl, hok, hv, b1⟩
  obtain ⟨a, b, rfl, ha, hb⟩ := hv
  obtain ⟨A1, c1, rfl⟩ := ha.slice
  obtain ⟨A2, c2, rfl⟩ := hb.slice
  have hv : blmV w1 (bloV x.p x.w (.slice A1 x.s.length c1) (.slice A2 x.b.length c2)) x := ⟨_, _, rfl, ha, hb⟩
  have hr := right_of hok
  have hsm := hr.small
  have BA : Below w1.heap.size w1 (w1.alloc (.cells #[.int .i64 x.p, .int .i64 x.w, .slice A1 x.s.length c1, .slice A2 x.b.length c2] 26)) := bl_al (Below.refl _ _)
  have HR := hide hr
  have HSM := hide hsm
  have HOK := hide hok
  have HV2 := hide (hv.below BA)
  have HX2 := hide (heap_alloc_new w1 (.cells #[.int .i64 x.p, .int .i64 x.w, .slice A1 x.s.length c1, .slice A2 x.b.length c2] 26))
  have HB2 := hide (bl_st BA b1)
  have HG2 : Hid (w1.heap.size < (w1.alloc (.cells #[.int .i64 x.p, .int .i64 x.w, .slice A1 x.s.length c1, .slice A2 x.b.length c2] 26)).heap.size) := hide (by simp)
  have K14 := hide (new14 x.p x.w (.slice A1 x.s.length c1) x.s (w1.alloc (.cells #[.int .i64 x.p, .int .i64 x.w, .slice A1 x.s.length c1, .slice A2 x.b.length c2] 26)) (ha.below BA) hsm.1)
  rw [new_ok hok] at K14
  have KX : Hid (∀ (i : Nat) W, i ≤ 1000 → Below w.heap.size w W → Calls Try.prog 16 #[.slice B m cb, .int .i64 i, .int .i64 x.p] W fun e w' => ∃ v : Nat, e = .returned (.int .i64 v) ∧ (v : Int) < x.p ∧ Below W.heap.size W w') := hide (by
    intro i W h1 hb
    obtain ⟨P, hP⟩ : ∃ P : Nat, x.p = P := ⟨x.p.toNat, by have := hr.p2; omega⟩
    have h3 := hr.p9
    have h4 := hr.p2
    rw [hP] at h3 h4 ⊢
    refine (unhide HAT i P W h1 (by omega) (by omega) hb).mono ?_
    rintro e w' ⟨v, rfl, hv, hb⟩
    exact ⟨v, rfl, by omega, hb⟩)
  have KK : Hid (∀ W, Below w.heap.size w W → Calls Try.prog 16 #[.slice B m cb, .int .i64 9, .int .i64 (x.s.length : Int)] W fun e w' => ∃ v : Nat, e = .returned (.int .i64 v) ∧ v < x.s.length ∧ Below W.heap.size W w') := hide fun W hb => unhide HAT 9 x.s.length W (by omega) hr.s1 (by have := hr.s4; omega) hb
  have sl0 : (0 : Int) ≤ (x.s.length : Int) := by omega
  have sl1 : (x.s.length : Int) ≤ 4 := by have := hr.s4; omega
  clear hv ha hb BA hr hsm hok b1 HAT KD
  go_wp2_with fail
  generalize w1.alloc (.cells #[.int .i64 x.p, .int .i64 x.w, .slice A1 x.s.length c1, .slice A2 x.b.length c2] 26) = w2 at *
  refine (unhide K14).mono ?_
  rintro e w3 ⟨r, rfl, oy, b3⟩
  dsimp only at oy ⊢
  obtain ⟨D1, m1, k1, D2, m2, k2, hre⟩ := oy.slices
  subst hre
  have BA : Below w3.heap.size w3 (w3.alloc (.cells #[.int .i64 (zeroX x).p, .int .i64 (zeroX x).w, .slice D1 m1 k1, .slice D2 m2 k2] 26)) := bl_al (Below.refl _ _)
  have HB4 := hide (bl_st BA b3)
  have HY4 := hide (heap_alloc_new w3 (.cells #[.int .i64 (zeroX x).p, .int .i64 (zeroX x).w, .slice D1 m1 k1, .slice D2 m2 k2] 26))
  have HO4 := hide (oy.below BA)
  have HS4 : Hid ((w3.alloc (.cells #[.int .i64 (zeroX x).p, .int .i64 (zeroX x).w, .slice D1 m1 k1, .slice D2 m2 k2] 26)).heap.size = w3.heap.size + 1 ∧ w2.heap.size ≤ w3.heap.size) := hide ⟨by simp, b3.size⟩
  have K15 := hide (ok15 _ x _ ((unhide HV2).below (unhide HB4)) (unhide HSM).1 (unhide HSM).2)
  rw [unhide HOK] at K15
  obtain ⟨_, d0, d1, d2, d3⟩ := (bc_row (unhide HX2)).below (unhide HB4)
  clear oy b3 BA K14
  go_wp2_with fail
  generalize w3.alloc (.cells #[.int .i64 (zeroX x).p, .int .i64 (zeroX x).w, .slice D1 m1 k1, .slice D2 m2 k2] 26) = w4 at *
  refine (unhide K15).mono ?_
  rintro e w5 ⟨rfl, b5⟩
  have HB5 := hide (bl_st b5 (unhide HB4))
  have HY5 := hide ((b5.block _ (Array.getElem?_eq_some_iff.1 (unhide HY4)).1).trans (unhide HY4))
  have HO5 := hide ((unhide HO4).below b5)
  have HS5 : Hid (w3.heap.size < w5.heap.size) := hide (by have := unhide HS4; have := b5.size; omega)
  clear K15 b5 HY4 HO4 HB4 d0 d1 d2 d3
  go_wp2
  have ST : Hid ((fun (u i : Value) (wr : World) => ∃ (j : Nat) (ts : List Int) (y : Blm) (ya yb : Value) (lo hi : Nat), j ≤ 5 ∧ ts.length = j ∧ i = .int .i64 j ∧ (∃ g c, u = .slice (some ⟨g, 0, none⟩) ts.length c) ∧ wr.ownsRow w5.heap.size 3 1 u ts.length (flatI ts) ∧ okX y = true ∧ sameX x y ∧ tagsX y ts ∧ wr.heap[w3.heap.size]? = some (.cells #[.int .i64 y.p, .int .i64 y.w, ya, yb] 26 (0, 0)) ∧ ownX lo hi wr (bloV y.p y.w ya yb) y ∧ (w3.heap.size < lo ∨ hi ≤ w3.heap.size) ∧ Below w2.heap.size w2 wr) (.slice (some ⟨w5.heap.size, 0, none⟩) 0 0) (.int .i64 0) (w5.alloc (.cells #[] 3))) := by
    have BE : Below w5.heap.size w5 (w5.alloc (.cells #[] 3)) := bl_al (Below.refl _ _)
    exact hide ⟨0, [], zeroX x, _, _, w2.heap.size, w3.heap.size, by omega, rfl, rfl, ⟨_, _, rfl⟩, World.ownsRow_made w5 #[] 0 (Nat.le_refl _) (Nat.zero_le _) rfl, zero_ok (unhide HOK), ⟨rfl, rfl, rfl⟩, tagsX_nil _, (BE.block _ (unhide HS5)).trans (unhide HY5), (unhide HO5).below BE, .inr (Nat.le_refl _), bl_st BE (unhide HB5)⟩
  go_loopw [8, 9] (fun u i wr => ∃ (j : Nat) (ts : List Int) (y : Blm) (ya yb : Value) (lo hi : Nat), j ≤ 5 ∧ ts.length = j ∧ i = .int .i64 j ∧ (∃ g c, u = .slice (some ⟨g, 0, none⟩) ts.length c) ∧ wr.ownsRow w5.heap.size 3 1 u ts.length (flatI ts) ∧ okX y = true ∧ sameX x y ∧ tagsX y ts ∧ wr.heap[w3.heap.size]? = some (.cells #[.int .i64 y.p, .int .i64 y.w, ya, yb] 26 (0, 0)) ∧ ownX lo hi wr (bloV y.p y.w ya yb) y ∧ (w3.heap.size < lo ∨ hi ≤ w3.heap.size) ∧ Below w2.heap.size w2 wr) (fun _ i _ => 5 - (intOf i).toNat)
  case atStart => exact unhide ST
  case round =>
    clear ST
    obtain ⟨j, ts, y, ya, yb, lo, hi, hj, htl, rfl, ⟨g, c, rfl⟩, hown, hoky, hsame, htags, hY, hO, hap, hB2⟩ := hrel
    obtain ⟨D3, m3, k3, D4, m4, k4, hre⟩ := hO.slices
    obtain ⟨rfl, rfl⟩ : ya = .slice D3 m3 k3 ∧ yb = .slice D4 m4 k4 := by simpa using hre
    have smy := (right_of hoky).small
    have gY := (Array.getElem?_eq_some_iff.1 hY).1
    have hs2 := (unhide HS4).2
    have hs5 := unhide HS5
    have hg2 := unhide HG2
    have hBw := bl_st hB2 (unhide HB2)
    have hgb := own_base hown
    clear hre
    have j0 : (0 : Int) ≤ (j : Int) := by omega
    by_cases hlt : (j : Int) < 5
    · obtain ⟨_, d0, d1, d2, d3⟩ := (bc_row (unhide HX2)).below hB2
      have KA := hide (unhide KX j wr (by omega) hBw)
      have P0 := hide hown
      have P1 := hide hY
      have P2 := hide hO
      have P3 := hide hB2
      have P4 := hide hsame
      have P5 := hide htags
      have P6 := hide hoky
      have P7 := hide smy
      have P8 : Hid (y.p = x.p) := hide hsame.1.symm
      have NS : Hid (w3.heap.size < lo ∨ hi ≤ w3.heap.size) := hide hap
      have NJ := hide htl
      clear hown hY hO hB2 hsame htags hoky smy hap hBw htl
      go_wp2_with fail
      refine (unhide KA).mono ?_
      rintro e wa ⟨t, rfl, ht, ba⟩
      have Q0 := hide (ownsRow_below (unhide P0) ba)
      have Q1 := hide ((ba.block _ gY).trans (unhide P1))
      have Q2 := hide ((unhide P2).below ba)
      have Q3 := hide (bl_st ba (unhide P3))
      have za := ba.size
      have TI : Hid (inP y.p t = true) := hide (inP_nat (by rw [unhide P8]; exact ht))
      have K17 := hide (add17 _ y t wa (unhide Q2).blm (unhide P7).1 (unhide P7).2)
      rw [addR_law (unhide P6) (unhide TI)] at K17
      have HG := hide (show g < wr.heap.size by
        rcases (unhide P0).2 with ⟨e, _⟩ | ⟨g', c', cur, e, _, h1, _⟩
        · simp at e
        · simp only [Value.slice.injEq, Option.some.injEq, Addr.mk.injEq] at e
          obtain ⟨⟨rfl, _⟩, _⟩ := e
          exact (Array.getElem?_eq_some_iff.1 h1).1)
      clear KA ba P0 P1 P2 P3 d0 d1 d2 d3 ht
      obtain ⟨_, d0, d1, d2, d3⟩ := bc_row (unhide Q1)
      go_wp2_with fail
      refine (unhide K17).mono ?_
      rintro e wb ⟨r, rfl, oz, bb⟩
      dsimp only at oz ⊢
      obtain ⟨E1, n1, e1, E2, n2, e2, hre⟩ := oz.slices
      subst hre
      clear d0 d1 d2 d3 K17
      have zb := bb.size
      have BA : Below wb.heap.size wb (wb.alloc (.cells #[.int .i64 (addX y t).p, .int .i64 (addX y t).w, .slice E1 n1 e1, .slice E2 n2 e2] 26)) := bl_al (Below.refl _ _)
      have bc := bl_st BA bb
      have R0 := hide (ownsRow_below (unhide Q0) bc)
      have R1 := hide ((bc.block _ (by omega)).trans (unhide Q1))
      have R2 := hide ((unhide Q2).below bc)
      have R3 := hide (bl_st bc (unhide Q3))
      have RZ := hide (oz.below BA)
      have RR := hide (heap_alloc_new wb (.cells #[.int .i64 (addX y t).p, .int .i64 (addX y t).w, .slice E1 n1 e1, .slice E2 n2 e2] 26))
      have zc : Hid ((wb.alloc (.cells #[.int .i64 (addX y t).p, .int .i64 (addX y t).w, .slice E1 n1 e1, .slice E2 n2 e2] 26)).heap.size = wb.heap.size + 1) := hide (by simp)
      have K18 := hide (add18 _ y t _ (unhide R2).blm (unhide P7).1 (unhide P7).2)
      rw [addR_law (unhide P6) (unhide TI)] at K18
      obtain ⟨_, d0, d1, d2, d3⟩ := bc_row (unhide R1)
      clear Q0 Q1 Q2 Q3 BA bc oz bb
      go_wp2_with fail
      generalize wb.alloc (.cells #[.int .i64 (addX y t).p, .int .i64 (addX y t).w, .slice E1 n1 e1, .slice E2 n2 e2] 26) = wc at *
      refine (unhide K18).mono ?_
      rintro e wd ⟨r, rfl, ow, bd⟩
      dsimp only at ow ⊢
      obtain ⟨F1, o1, f1, F2, o2, f2, hre⟩ := ow.slices
      subst hre
      clear d0 d1 d2 d3 K18
      have zd := bd.size
      have zc' := unhide zc
      have BA : Below wd.heap.size wd (wd.alloc (.cells #[.int .i64 (addX y t).p, .int .i64 (addX y t).w, .slice F1 o1 f1, .slice F2 o2 f2] 26)) := bl_al (Below.refl _ _)
      have be := bl_st BA bd
      have S0 := hide (ownsRow_below (unhide R0) be)
      have S1 := hide ((be.block _ (by omega)).trans (unhide R1))
      have S3 := hide (bl_st be (unhide R3))
      have SZ := hide ((unhide RZ).below be)
      have SR := hide ((be.block _ (by omega)).trans (unhide RR))
      have SW := hide (ow.below BA)
      have SV := hide (heap_alloc_new wd (.cells #[.int .i64 (addX y t).p, .int .i64 (addX y t).w, .slice F1 o1 f1, .slice F2 o2 f2] 26))
      have ze : Hid ((wd.alloc (.cells #[.int .i64 (addX y t).p, .int .i64 (addX y t).w, .slice F1 o1 f1, .slice F2 o2 f2] 26)).heap.size = wd.heap.size + 1) := hide (by simp)
      have K19 := hide (eq19 (.slice E2 n2 e2) (.slice F2 o2 f2) (addX y t).b (wd.alloc (.cells #[.int .i64 (addX y t).p, .int .i64 (addX y t).w, .slice F1 o1 f1, .slice F2 o2 f2] 26)) (bits_of (unhide SZ)) (bits_of (unhide SW)) (right_of (add_ok (unhide P6))).small.2)
      obtain ⟨_, d0, d1, d2, d3⟩ := bc_row (unhide SR)
      obtain ⟨_, d4, d5, d6, d7⟩ := bc_row (unhide SV)
      clear R0 R1 R2 R3 RZ RR BA be bd ow SW
      go_wp2_with fail
      generalize wd.alloc (.cells #[.int .i64 (addX y t).p, .int .i64 (addX y t).w, .slice F1 o1 f1, .slice F2 o2 f2] 26) = we at *
      refine (unhide K19).mono ?_
      rintro e wf ⟨rfl, kk, rfl⟩
      clear d0 d1 d2 d3 d4 d5 d6 d7 K19 SV
      have ze' := unhide ze
      have bf : Below we.heap.size we (we.drewN kk) := below_drewN (Below.refl _ _) kk
      have U0 := hide (ownsRow_below (unhide S0) bf)
      have U1 := hide ((bf.block _ (by omega)).trans (unhide S1))
      have U3 := hide (bl_st bf (unhide S3))
      have UZ := hide ((unhide SZ).below bf)
      have UR := hide ((bf.block _ (by omega)).trans (unhide SR))
      have zf := bf.size
      clear S0 S1 S3 SZ SR bf
      generalize we.drewN kk = wf at *
      have BA : Below wf.heap.size wf (wf.alloc (.cells #[.int .i64 (t : Int)] 3)) := bl_al (Below.refl _ _)
      have V0 := hide (ownsRow_below (unhide U0) BA)
      have V1 := hide ((BA.block _ (by omega)).trans (unhide U1))
      have V3 := hide (bl_st BA (unhide U3))
      have VZ := hide ((unhide UZ).below BA)
      have VR := hide ((BA.block _ (by omega)).trans (unhide UR))
      have VT := hide (one_int wf (t : Int))
      have zg := hide BA.size
      have HG' := unhide HG
      clear U0 U1 U3 UZ UR BA
      go_wp2_with (at_builtin; refine wpList_append_ints _ rfl _ _ rfl w5.heap.size ts.length (.slice (some ⟨g, 0, none⟩) ts.length c) ts rfl (unhide V0) ⟨_, _, rfl⟩ (.slice (some ⟨wf.heap.size, 0, none⟩) 1 1) [(t : Int)] rfl (unhide VT) (by have := unhide NJ; simp; omega) (by have := unhide zg; omega) ?_; intro g1 c3 wg own1 gr1; have hl := grown_lone (q := g) gr1; have sg := unhide zg; have W0 := hide own1; have w1' := (hl.block w3.heap.size (by omega) (by omega)).trans (unhide V1); have W3 := hide (hl.below (unhide V3) (by omega) (by omega)); have WZ := hide ((unhide VZ).lone hl (by omega)); have wr' := (hl.block wb.heap.size (by omega) (by omega)).trans (unhide VR); have WS := hide hl.size; clear own1 gr1 hl; obtain ⟨_, d0, d1, d2, d3⟩ := bc_row wr'; have r0 : wg.cell? ⟨w3.heap.size, 0, none⟩ = some (.int .i64 y.p) := row_cell w1'; have q0 : wg.frozen? ⟨w3.heap.size, 0, none⟩ = false := row_free w1'; have r1 : wg.cell? ⟨w3.heap.size, 1, none⟩ = some (.int .i64 y.w) := row_cell w1'; have q1 : wg.frozen? ⟨w3.heap.size, 1, none⟩ = false := row_free w1'; have r2 : wg.cell? ⟨w3.heap.size, 2, none⟩ = some (.slice D3 m3 k3) := row_cell w1'; have q2 : wg.frozen? ⟨w3.heap.size, 2, none⟩ = false := row_free w1'; have r3 : wg.cell? ⟨w3.heap.size, 3, none⟩ = some (.slice D4 m4 k4) := row_cell w1'; have q3 : wg.frozen? ⟨w3.heap.size, 3, none⟩ = false := row_free w1'; have W1 := hide w1'; clear w1' wr' V0 V1 V3 VZ VR VT)
      have e9 : ts.length + 1 = (ts ++ [(t : Int)]).length := by simp
      have LN := lone_put4 wg w3.heap.size (addX y t).p (addX y t).w (.slice E1 n1 e1) (.slice E2 n2 e2)
      have ws := unhide WS
      have sg := unhide zg
      go_roundw
      case rel => exact ⟨j + 1, ts ++ [(t : Int)], addX y t, .slice E1 n1 e1, .slice E2 n2 e2, wa.heap.size, wb.heap.size, by omega, by have := unhide NJ; simp; omega, by go_num, ⟨g1, c3, by rw [e9]⟩, ownsRow_lone (by rw [← e9]; exact unhide W0) LN (by omega), add_ok (unhide P6), unhide P4, tagsX_snoc ((add_grow (unhide P6)).tags (unhide P5)) (unhide TI) (add_has (unhide P6)), row_put4 (unhide W1) _ _ _ _, (unhide WZ).lone LN (by omega), .inl (by omega), bl_put4 (unhide W3) (by omega)⟩
      case measure => simp [intOf]; omega
    · have OT := own_ints hown ⟨_, _, rfl⟩
      have l5 : ts.length = 5 := by omega
      obtain ⟨rest, hrow⟩ : ∃ rest, wr.heap[g]? = some (rowObj 3 .i64 ts rest) := by
        rcases OT with ⟨e, _⟩ | ⟨g', cap', rest, e, _, _, h1, _⟩
        · simp at e
        · simp only [Value.slice.injEq, Option.some.injEq, Addr.mk.injEq] at e
          obtain ⟨⟨rfl, _⟩, _⟩ := e
          exact ⟨rest, h1⟩
      have hvx := (unhide HV2).below hB2
      have hvy := hO.blm
      have smx := unhide HSM
      have K20 := hide (merge20 _ _ x y wr hvx hvy smx.1 smx.2 smy.1 smy.2)
      rw [mergeR_ok (unhide HOK) hoky hsame] at K20
      have hX := (hB2.block w1.heap.size hg2).trans (unhide HX2)
      obtain ⟨_, d0, d1, d2, d3⟩ := bc_row hX
      obtain ⟨_, d4, d5, d6, d7⟩ := bc_row hY
      have T0 := hide hrow
      have T1 := hide hX
      have T2 := hide hY
      have T3 := hide hvx
      have T4 := hide hvy
      have T5 := hide hBw
      have T6 := hide hsame
      have T7 := hide htags
      have T8 := hide hoky
      have T9 := hide smy
      have lx : Hid (w1.heap.size < wr.heap.size) := hide (by have := hB2.size; omega)
      have lt0 : (0 : Int) < (ts.length : Int) := by omega
      have lt5 : (ts.length : Int) ≤ 5 := by omega
      clear OT hrow hvx hvy hX hY hO hap hB2 hBw hsame htags hoky smy smx hown l5 htl hj
      go_wp2_with fail
      refine (unhide K20).mono ?_
      rintro e wa ⟨r, rfl, oz, ba⟩
      dsimp only at oz ⊢
      obtain ⟨E1, n1, e1, E2, n2, e2, hre⟩ := oz.slices
      subst hre
      clear d0 d1 d2 d3 d4 d5 d6 d7 K20
      have BA : Below wa.heap.size wa (wa.alloc (.cells #[.int .i64 (mergeX x y).p, .int .i64 (mergeX x y).w, .slice E1 n1 e1, .slice E2 n2 e2] 26)) := bl_al (Below.refl _ _)
      have BB := hide (bl_st BA ba)
      have OKM := hide (merge_ok (y := y) (unhide HOK))
      have SMM := hide (right_of (unhide OKM)).small
      have VZ := hide (oz.below BA).blm
      have RZ := hide (heap_alloc_new wa (.cells #[.int .i64 (mergeX x y).p, .int .i64 (mergeX x y).w, .slice E1 n1 e1, .slice E2 n2 e2] 26))
      have K15 := hide (ok15 _ (mergeX x y) _ (unhide VZ) (unhide SMM).1 (unhide SMM).2)
      rw [unhide OKM] at K15
      obtain ⟨_, d0, d1, d2, d3⟩ := bc_row (unhide RZ)
      clear oz BA ba
      go_wp2_with fail
      generalize wa.alloc (.cells #[.int .i64 (mergeX x y).p, .int .i64 (mergeX x y).w, .slice E1 n1 e1, .slice E2 n2 e2] 26) = wb at *
      refine (unhide K15).mono ?_
      rintro e wM ⟨rfl, bM⟩
      have bb := bl_st bM (unhide BB)
      have M0 := hide ((bb.block g (Array.getElem?_eq_some_iff.1 (unhide T0)).1).trans (unhide T0))
      have M1 := hide ((bb.block _ (unhide lx)).trans (unhide T1))
      have M2 := hide ((bb.block _ gY).trans (unhide T2))
      have M3 := hide ((unhide T3).below bb)
      have M4 := hide ((unhide T4).below bb)
      have M5 := hide (bl_st bb (unhide T5))
      have M6 := hide ((unhide VZ).below bM)
      have M7 := hide ((bM.block _ (Array.getElem?_eq_some_iff.1 (unhide RZ)).1).trans (unhide RZ))
      have GX := hide (merge_grow (y := y) (unhide HOK))
      have GY := hide (merge_grow2 (unhide T8) (unhide T6))
      clear d0 d1 d2 d3 K15 bb bM T0 T1 T2 T3 T4 T5 VZ RZ BB lx gY hlt hs2 hs5 hg2 hgb j0
      go_wp2
      go_loopw [17] (fun i wr => ∃ (k : Nat), k ≤ ts.length ∧ i = .int .i64 k ∧ Below wM.heap.size wM wr) (fun i _ => ts.length - (intOf i).toNat)
      case atStart => exact ⟨0, Nat.zero_le _, rfl, Below.refl _ _⟩
      case round =>
        obtain ⟨k, hk, rfl, hb⟩ := hrel
        have k0 : (0 : Int) ≤ (k : Int) := by omega
        by_cases hlt : (k : Int) < (ts.length : Int)
        · have tg := unhide T7 k (by omega)
          have HY1 := hide (fun W hW => has21 (bloV y.p y.w (.slice D3 m3 k3) (.slice D4 m4 k4)) y (ts.getD k 0) W hW (unhide T9).1 (unhide T9).2)
          rw [hasR_law (unhide T8) tg.1, tg.2] at HY1
          have HZ1 := hide (fun W hW => has21 (bloV (mergeX x y).p (mergeX x y).w (.slice E1 n1 e1) (.slice E2 n2 e2)) (mergeX x y) (ts.getD k 0) W hW (unhide SMM).1 (unhide SMM).2)
          rw [hasR_law (unhide OKM) (by rw [(unhide GY).p]; exact tg.1), (unhide GY).has tg.2] at HZ1
          clear tg
          go_wp2
          refine wp_region_held (S := fun W' => Below wr.heap.size wr W') (by kernel_rfl) ?_
          have hS0 : Below wr.heap.size wr { wr with drawn := wr.drawn + 1 } := below_drewN (Below.refl _ _) 1
          refine wpAnyH_take (i := 0) (oi := { dst := some 116, op := Op.load 26 (Operand.tmp 6), type := 26, pos := "laws.go:649", after := #[], guard := none }) (v := ?_) rfl (by kernel_rfl) (by kernel_rfl) (by kernel_rfl) (fun _ _ _ h => h) (Or.inl ⟨by rfl, ?_⟩) hS0 ?_
          rotate_left
          · intro W hSw
            obtain ⟨_, y0, y1, y2, y3⟩ := bc_row (((bl_st hSw hb).block _ (Array.getElem?_eq_some_iff.1 (unhide M2)).1).trans (unhide M2))
            obtain ⟨_, z0, z1, z2, z3⟩ := bc_row (((bl_st hSw hb).block _ (Array.getElem?_eq_some_iff.1 (unhide M7)).1).trans (unhide M7))
            obtain ⟨_, x0, x1, x2, x3⟩ := bc_row (((bl_st hSw hb).block _ (Array.getElem?_eq_some_iff.1 (unhide M1)).1).trans (unhide M1))
            have tc := cell_rowO (((bl_st hSw hb).block g (Array.getElem?_eq_some_iff.1 (unhide M0)).1).trans (unhide M0)) k (by omega)
            go_simp
            try with_reducible rfl
          simp only [Act.put, List.setIfInBounds_toArray, List.set_cons_zero, List.set_cons_succ]
          refine wpAnyH_take (i := 1) (oi := { dst := some 117, op := Op.move (Operand.tmp 8), type := 31, pos := "laws.go:649", after := #[], guard := none }) (v := ?_) rfl (by kernel_rfl) (by kernel_rfl) (by kernel_rfl) (fun _ _ _ h => h) (Or.inl ⟨by rfl, ?_⟩) hS0 ?_
          rotate_left
          · intro W hSw
            obtain ⟨_, y0, y1, y2, y3⟩ := bc_row (((bl_st hSw hb).block _ (Array.getElem?_eq_some_iff.1 (unhide M2)).1).trans (unhide M2))
            obtain ⟨_, z0, z1, z2, z3⟩ := bc_row (((bl_st hSw hb).block _ (Array.getElem?_eq_some_iff.1 (unhide M7)).1).trans (unhide M7))
            obtain ⟨_, x0, x1, x2, x3⟩ := bc_row (((bl_st hSw hb).block _ (Array.getElem?_eq_some_iff.1 (unhide M1)).1).trans (unhide M1))
            have tc := cell_rowO (((bl_st hSw hb).block g (Array.getElem?_eq_some_iff.1 (unhide M0)).1).trans (unhide M0)) k (by omega)
            go_simp
            try with_reducible rfl
          simp only [Act.put, List.setIfInBounds_toArray, List.set_cons_zero, List.set_cons_succ]
          refine wpAnyH_take (i := 2) (oi := { dst := some 118, op := Op.move (Operand.tmp 17), type := 3, pos := "laws.go:649", after := #[], guard := none }) (v := ?_) rfl (by kernel_rfl) (by kernel_rfl) (by kernel_rfl) (fun _ _ _ h => h) (Or.inl ⟨by rfl, ?_⟩) hS0 ?_
          rotate_left
          · intro W hSw
            obtain ⟨_, y0, y1, y2, y3⟩ := bc_row (((bl_st hSw hb).block _ (Array.getElem?_eq_some_iff.1 (unhide M2)).1).trans (unhide M2))
            obtain ⟨_, z0, z1, z2, z3⟩ := bc_row (((bl_st hSw hb).block _ (Array.getElem?_eq_some_iff.1 (unhide M7)).1).trans (unhide M7))
            obtain ⟨_, x0, x1, x2, x3⟩ := bc_row (((bl_st hSw hb).block _ (Array.getElem?_eq_some_iff.1 (unhide M1)).1).trans (unhide M1))
            have tc := cell_rowO (((bl_st hSw hb).block g (Array.getElem?_eq_some_iff.1 (unhide M0)).1).trans (unhide M0)) k (by omega)
            go_simp
            try with_reducible rfl
          simp only [Act.put, List.setIfInBounds_toArray, List.set_cons_zero, List.set_cons_succ]
          refine wpAnyH_take (i := 3) (oi := { dst := some 119, op := Op.indexAddr 31 (Operand.tmp 117) (Operand.tmp 118), type := 0, pos := "laws.go:649", after := #[{ on := 1, ground := Ground.data }, { on := 2, ground := Ground.data }], guard := none }) (v := ?_) rfl (by kernel_rfl) (by kernel_rfl) (by kernel_rfl) (fun _ _ _ h => h) (Or.inl ⟨by rfl, ?_⟩) hS0 ?_
          rotate_left
          · intro W hSw
            obtain ⟨_, y0, y1, y2, y3⟩ := bc_row (((bl_st hSw hb).block _ (Array.getElem?_eq_some_iff.1 (unhide M2)).1).trans (unhide M2))
            obtain ⟨_, z0, z1, z2, z3⟩ := bc_row (((bl_st hSw hb).block _ (Array.getElem?_eq_some_iff.1 (unhide M7)).1).trans (unhide M7))
            obtain ⟨_, x0, x1, x2, x3⟩ := bc_row (((bl_st hSw hb).block _ (Array.getElem?_eq_some_iff.1 (unhide M1)).1).trans (unhide M1))
            have tc := cell_rowO (((bl_st hSw hb).block g (Array.getElem?_eq_some_iff.1 (unhide M0)).1).trans (unhide M0)) k (by omega)
            go_simp
            try with_reducible rfl
          simp only [Act.put, List.setIfInBounds_toArray, List.set_cons_zero, List.set_cons_succ]
          refine wpAnyH_take (i := 4) (oi := { dst := some 120, op := Op.load 3 (Operand.tmp 119), type := 3, pos := "laws.go:649", after := #[{ on := 3, ground := Ground.data }], guard := none }) (v := ?_) rfl (by kernel_rfl) (by kernel_rfl) (by kernel_rfl) (fun _ _ _ h => h) (Or.inl ⟨by rfl, ?_⟩) hS0 ?_
          rotate_left
          · intro W hSw
            obtain ⟨_, y0, y1, y2, y3⟩ := bc_row (((bl_st hSw hb).block _ (Array.getElem?_eq_some_iff.1 (unhide M2)).1).trans (unhide M2))
            obtain ⟨_, z0, z1, z2, z3⟩ := bc_row (((bl_st hSw hb).block _ (Array.getElem?_eq_some_iff.1 (unhide M7)).1).trans (unhide M7))
            obtain ⟨_, x0, x1, x2, x3⟩ := bc_row (((bl_st hSw hb).block _ (Array.getElem?_eq_some_iff.1 (unhide M1)).1).trans (unhide M1))
            have tc := cell_rowO (((bl_st hSw hb).block g (Array.getElem?_eq_some_iff.1 (unhide M0)).1).trans (unhide M0)) k (by omega)
            go_simp
            try with_reducible rfl
          simp only [Act.put, List.setIfInBounds_toArray, List.set_cons_zero, List.set_cons_succ]
          refine wpAnyH_one (i := 5) (by kernel_rfl) ?_
          refine wpOp_step (o := { dst := some 121, op := Op.call { callee := Callee.value (Operand.func 21), args := #[Operand.tmp 116, Operand.tmp 120], argTypes := #[26, 3] }, type := 36, pos := "laws.go:649", after := #[{ on := 0, ground := Ground.data }, { on := 4, ground := Ground.data }], guard := none }) rfl fun K' hK => step_enterW (by rfl) 21 #[bloV y.p y.w (.slice D3 m3 k3) (.slice D4 m4 k4), .int .i64 (ts.getD k 0)] (by go_simp) ((unhide HY1 _ ((unhide M4).below (bl_st hS0 hb))).mono ?_)
          rintro e wr2 ⟨rfl, bR⟩
          have sR := bl_st bR hS0
          refine ⟨_, rfl, hK _ _ ⟨sR, ?_⟩⟩
          simp only [Act.put, List.setIfInBounds_toArray, List.set_cons_zero, List.set_cons_succ]
          refine wpAnyH_take (i := 6) (oi := { dst := some 115, op := Op.move (Operand.tmp 121), type := 36, pos := "laws.go:649", after := #[{ on := 5, ground := Ground.data }], guard := none }) (v := ?_) rfl (by kernel_rfl) (by kernel_rfl) (by kernel_rfl) (fun _ _ _ h => h) (Or.inl ⟨by rfl, ?_⟩) sR ?_
          rotate_left
          · intro W hSw
            go_simp
            try with_reducible rfl
          simp only [Act.put, List.setIfInBounds_toArray, List.set_cons_zero, List.set_cons_succ]
          refine wpAnyH_take (i := 7) (oi := { dst := some 122, op := Op.extract (Operand.tmp 115) 0, type := 4, pos := "laws.go:649", after := #[{ on := 6, ground := Ground.data }], guard := none }) (v := ?_) rfl (by kernel_rfl) (by kernel_rfl) (by kernel_rfl) (fun _ _ _ h => h) (Or.inl ⟨by rfl, ?_⟩) sR ?_
          rotate_left
          · intro W hSw
            go_simp
            try with_reducible rfl
          simp only [Act.put, List.setIfInBounds_toArray, List.set_cons_zero, List.set_cons_succ]
          refine wpAnyH_take (i := 8) (oi := { dst := some 123, op := Op.extract (Operand.tmp 115) 1, type := 3, pos := "laws.go:649", after := #[{ on := 6, ground := Ground.data }, { on := 9, ground := Ground.gcOnly Departure.lateStores }], guard := none }) (v := ?_) rfl (by kernel_rfl) (by kernel_rfl) (by kernel_rfl) (fun _ _ _ h => h) (Or.inl ⟨by rfl, ?_⟩) sR ?_
          rotate_left
          · intro W hSw
            go_simp
            try with_reducible rfl
          simp only [Act.put, List.setIfInBounds_toArray, List.set_cons_zero, List.set_cons_succ]
          refine wpAnyH_take (i := 9) (oi := { dst := some 18, op := Op.assign (Operand.tmp 122), type := 4, pos := "laws.go:649", after := #[{ on := 7, ground := Ground.data }, { on := 5, ground := Ground.chain }, { on := 0, ground := Ground.phase }, { on := 1, ground := Ground.phase }, { on := 2, ground := Ground.phase }, { on := 3, ground := Ground.phase }, { on := 4, ground := Ground.phase }, { on := 5, ground := Ground.phase }, { on := 6, ground := Ground.phase }, { on := 7, ground := Ground.phase }, { on := 8, ground := Ground.textOnly Departure.lateStores }], guard := none }) (v := ?_) rfl (by kernel_rfl) (by kernel_rfl) (by kernel_rfl) (fun _ _ _ h => h) (Or.inl ⟨by rfl, ?_⟩) sR ?_
          rotate_left
          · intro W hSw
            go_simp
            try with_reducible rfl
          simp only [Act.put, List.setIfInBounds_toArray, List.set_cons_zero, List.set_cons_succ]
          refine wpAnyH_take (i := 10) (oi := { dst := some 19, op := Op.assign (Operand.tmp 123), type := 3, pos := "laws.go:649", after := #[{ on := 8, ground := Ground.data }, { on := 9, ground := Ground.chain }, { on := 0, ground := Ground.phase }, { on := 1, ground := Ground.phase }, { on := 2, ground := Ground.phase }, { on := 3, ground := Ground.phase }, { on := 4, ground := Ground.phase }, { on := 5, ground := Ground.phase }, { on := 6, ground := Ground.phase }, { on := 7, ground := Ground.phase }, { on := 8, ground := Ground.phase }, { on := 9, ground := Ground.phase }], guard := none }) (v := ?_) rfl (by kernel_rfl) (by kernel_rfl) (by kernel_rfl) (fun _ _ _ h => h) (Or.inl ⟨by rfl, ?_⟩) sR ?_
          rotate_left
          · intro W hSw
            go_simp
            try with_reducible rfl
          simp only [Act.put, List.setIfInBounds_toArray, List.set_cons_zero, List.set_cons_succ]
          refine wpAnyH_done (by kernel_rfl) ?_ _
          have hb2 := bl_st sR hb
          clear sR bR hS0
          go_wp2
          refine wp_region_held (S := fun W' => Below wr2.heap.size wr2 W') (by kernel_rfl) ?_
          have hS0 : Below wr2.heap.size wr2 { wr2 with drawn := wr2.drawn + 1 } := below_drewN (Below.refl _ _) 1
          refine wpAnyH_take (i := 0) (oi := { dst := some 125, op := Op.load 26 (Operand.tmp 15), type := 26, pos := "laws.go:650", after := #[], guard := none }) (v := ?_) rfl (by kernel_rfl) (by kernel_rfl) (by kernel_rfl) (fun _ _ _ h => h) (Or.inl ⟨by rfl, ?_⟩) hS0 ?_
          rotate_left
          · intro W hSw
            obtain ⟨_, y0, y1, y2, y3⟩ := bc_row (((bl_st hSw hb2).block _ (Array.getElem?_eq_some_iff.1 (unhide M2)).1).trans (unhide M2))
            obtain ⟨_, z0, z1, z2, z3⟩ := bc_row (((bl_st hSw hb2).block _ (Array.getElem?_eq_some_iff.1 (unhide M7)).1).trans (unhide M7))
            obtain ⟨_, x0, x1, x2, x3⟩ := bc_row (((bl_st hSw hb2).block _ (Array.getElem?_eq_some_iff.1 (unhide M1)).1).trans (unhide M1))
            have tc := cell_rowO (((bl_st hSw hb2).block g (Array.getElem?_eq_some_iff.1 (unhide M0)).1).trans (unhide M0)) k (by omega)
            go_simp
            try with_reducible rfl
          simp only [Act.put, List.setIfInBounds_toArray, List.set_cons_zero, List.set_cons_succ]
          refine wpAnyH_take (i := 1) (oi := { dst := some 126, op := Op.move (Operand.tmp 8), type := 31, pos := "laws.go:650", after := #[], guard := none }) (v := ?_) rfl (by kernel_rfl) (by kernel_rfl) (by kernel_rfl) (fun _ _ _ h => h) (Or.inl ⟨by rfl, ?_⟩) hS0 ?_
          rotate_left
          · intro W hSw
            obtain ⟨_, y0, y1, y2, y3⟩ := bc_row (((bl_st hSw hb2).block _ (Array.getElem?_eq_some_iff.1 (unhide M2)).1).trans (unhide M2))
            obtain ⟨_, z0, z1, z2, z3⟩ := bc_row (((bl_st hSw hb2).block _ (Array.getElem?_eq_some_iff.1 (unhide M7)).1).trans (unhide M7))
            obtain ⟨_, x0, x1, x2, x3⟩ := bc_row (((bl_st hSw hb2).block _ (Array.getElem?_eq_some_iff.1 (unhide M1)).1).trans (unhide M1))
            have tc := cell_rowO (((bl_st hSw hb2).block g (Array.getElem?_eq_some_iff.1 (unhide M0)).1).trans (unhide M0)) k (by omega)
            go_simp
            try with_reducible rfl
          simp only [Act.put, List.setIfInBounds_toArray, List.set_cons_zero, List.set_cons_succ]
          refine wpAnyH_take (i := 2) (oi := { dst := some 127, op := Op.move (Operand.tmp 17), type := 3, pos := "laws.go:650", after := #[], guard := none }) (v := ?_) rfl (by kernel_rfl) (by kernel_rfl) (by kernel_rfl) (fun _ _ _ h => h) (Or.inl ⟨by rfl, ?_⟩) hS0 ?_
          rotate_left
          · intro W hSw
            obtain ⟨_, y0, y1, y2, y3⟩ := bc_row (((bl_st hSw hb2).block _ (Array.getElem?_eq_some_iff.1 (unhide M2)).1).trans (unhide M2))
            obtain ⟨_, z0, z1, z2, z3⟩ := bc_row (((bl_st hSw hb2).block _ (Array.getElem?_eq_some_iff.1 (unhide M7)).1).trans (unhide M7))
            obtain ⟨_, x0, x1, x2, x3⟩ := bc_row (((bl_st hSw hb2).block _ (Array.getElem?_eq_some_iff.1 (unhide M1)).1).trans (unhide M1))
            have tc := cell_rowO (((bl_st hSw hb2).block g (Array.getElem?_eq_some_iff.1 (unhide M0)).1).trans (unhide M0)) k (by omega)
            go_simp
            try with_reducible rfl
          simp only [Act.put, List.setIfInBounds_toArray, List.set_cons_zero, List.set_cons_succ]
          refine wpAnyH_take (i := 3) (oi := { dst := some 128, op := Op.indexAddr 31 (Operand.tmp 126) (Operand.tmp 127), type := 0, pos := "laws.go:650", after := #[{ on := 1, ground := Ground.data }, { on := 2, ground := Ground.data }], guard := none }) (v := ?_) rfl (by kernel_rfl) (by kernel_rfl) (by kernel_rfl) (fun _ _ _ h => h) (Or.inl ⟨by rfl, ?_⟩) hS0 ?_
          rotate_left
          · intro W hSw
            obtain ⟨_, y0, y1, y2, y3⟩ := bc_row (((bl_st hSw hb2).block _ (Array.getElem?_eq_some_iff.1 (unhide M2)).1).trans (unhide M2))
            obtain ⟨_, z0, z1, z2, z3⟩ := bc_row (((bl_st hSw hb2).block _ (Array.getElem?_eq_some_iff.1 (unhide M7)).1).trans (unhide M7))
            obtain ⟨_, x0, x1, x2, x3⟩ := bc_row (((bl_st hSw hb2).block _ (Array.getElem?_eq_some_iff.1 (unhide M1)).1).trans (unhide M1))
            have tc := cell_rowO (((bl_st hSw hb2).block g (Array.getElem?_eq_some_iff.1 (unhide M0)).1).trans (unhide M0)) k (by omega)
            go_simp
            try with_reducible rfl
          simp only [Act.put, List.setIfInBounds_toArray, List.set_cons_zero, List.set_cons_succ]
          refine wpAnyH_take (i := 4) (oi := { dst := some 129, op := Op.load 3 (Operand.tmp 128), type := 3, pos := "laws.go:650", after := #[{ on := 3, ground := Ground.data }], guard := none }) (v := ?_) rfl (by kernel_rfl) (by kernel_rfl) (by kernel_rfl) (fun _ _ _ h => h) (Or.inl ⟨by rfl, ?_⟩) hS0 ?_
          rotate_left
          · intro W hSw
            obtain ⟨_, y0, y1, y2, y3⟩ := bc_row (((bl_st hSw hb2).block _ (Array.getElem?_eq_some_iff.1 (unhide M2)).1).trans (unhide M2))
            obtain ⟨_, z0, z1, z2, z3⟩ := bc_row (((bl_st hSw hb2).block _ (Array.getElem?_eq_some_iff.1 (unhide M7)).1).trans (unhide M7))
            obtain ⟨_, x0, x1, x2, x3⟩ := bc_row (((bl_st hSw hb2).block _ (Array.getElem?_eq_some_iff.1 (unhide M1)).1).trans (unhide M1))
            have tc := cell_rowO (((bl_st hSw hb2).block g (Array.getElem?_eq_some_iff.1 (unhide M0)).1).trans (unhide M0)) k (by omega)
            go_simp
            try with_reducible rfl
          simp only [Act.put, List.setIfInBounds_toArray, List.set_cons_zero, List.set_cons_succ]
          refine wpAnyH_one (i := 5) (by kernel_rfl) ?_
          refine wpOp_step (o := { dst := some 130, op := Op.call { callee := Callee.value (Operand.func 21), args := #[Operand.tmp 125, Operand.tmp 129], argTypes := #[26, 3] }, type := 36, pos := "laws.go:650", after := #[{ on := 0, ground := Ground.data }, { on := 4, ground := Ground.data }], guard := none }) rfl fun K' hK => step_enterW (by rfl) 21 #[bloV (mergeX x y).p (mergeX x y).w (.slice E1 n1 e1) (.slice E2 n2 e2), .int .i64 (ts.getD k 0)] (by go_simp) ((unhide HZ1 _ ((unhide M6).below (bl_st hS0 hb2))).mono ?_)
          rintro e wr3 ⟨rfl, bR⟩
          have sR := bl_st bR hS0
          refine ⟨_, rfl, hK _ _ ⟨sR, ?_⟩⟩
          simp only [Act.put, List.setIfInBounds_toArray, List.set_cons_zero, List.set_cons_succ]
          refine wpAnyH_take (i := 6) (oi := { dst := some 124, op := Op.move (Operand.tmp 130), type := 36, pos := "laws.go:650", after := #[{ on := 5, ground := Ground.data }], guard := none }) (v := ?_) rfl (by kernel_rfl) (by kernel_rfl) (by kernel_rfl) (fun _ _ _ h => h) (Or.inl ⟨by rfl, ?_⟩) sR ?_
          rotate_left
          · intro W hSw
            go_simp
            try with_reducible rfl
          simp only [Act.put, List.setIfInBounds_toArray, List.set_cons_zero, List.set_cons_succ]
          refine wpAnyH_take (i := 7) (oi := { dst := some 131, op := Op.extract (Operand.tmp 124) 0, type := 4, pos := "laws.go:650", after := #[{ on := 6, ground := Ground.data }], guard := none }) (v := ?_) rfl (by kernel_rfl) (by kernel_rfl) (by kernel_rfl) (fun _ _ _ h => h) (Or.inl ⟨by rfl, ?_⟩) sR ?_
          rotate_left
          · intro W hSw
            go_simp
            try with_reducible rfl
          simp only [Act.put, List.setIfInBounds_toArray, List.set_cons_zero, List.set_cons_succ]
          refine wpAnyH_take (i := 8) (oi := { dst := some 132, op := Op.extract (Operand.tmp 124) 1, type := 3, pos := "laws.go:650", after := #[{ on := 6, ground := Ground.data }, { on := 9, ground := Ground.gcOnly Departure.lateStores }], guard := none }) (v := ?_) rfl (by kernel_rfl) (by kernel_rfl) (by kernel_rfl) (fun _ _ _ h => h) (Or.inl ⟨by rfl, ?_⟩) sR ?_
          rotate_left
          · intro W hSw
            go_simp
            try with_reducible rfl
          simp only [Act.put, List.setIfInBounds_toArray, List.set_cons_zero, List.set_cons_succ]
          refine wpAnyH_take (i := 9) (oi := { dst := some 20, op := Op.assign (Operand.tmp 131), type := 4, pos := "laws.go:650", after := #[{ on := 7, ground := Ground.data }, { on := 5, ground := Ground.chain }, { on := 0, ground := Ground.phase }, { on := 1, ground := Ground.phase }, { on := 2, ground := Ground.phase }, { on := 3, ground := Ground.phase }, { on := 4, ground := Ground.phase }, { on := 5, ground := Ground.phase }, { on := 6, ground := Ground.phase }, { on := 7, ground := Ground.phase }, { on := 8, ground := Ground.textOnly Departure.lateStores }], guard := none }) (v := ?_) rfl (by kernel_rfl) (by kernel_rfl) (by kernel_rfl) (fun _ _ _ h => h) (Or.inl ⟨by rfl, ?_⟩) sR ?_
          rotate_left
          · intro W hSw
            go_simp
            try with_reducible rfl
          simp only [Act.put, List.setIfInBounds_toArray, List.set_cons_zero, List.set_cons_succ]
          refine wpAnyH_take (i := 10) (oi := { dst := some 21, op := Op.assign (Operand.tmp 132), type := 3, pos := "laws.go:650", after := #[{ on := 8, ground := Ground.data }, { on := 9, ground := Ground.chain }, { on := 0, ground := Ground.phase }, { on := 1, ground := Ground.phase }, { on := 2, ground := Ground.phase }, { on := 3, ground := Ground.phase }, { on := 4, ground := Ground.phase }, { on := 5, ground := Ground.phase }, { on := 6, ground := Ground.phase }, { on := 7, ground := Ground.phase }, { on := 8, ground := Ground.phase }, { on := 9, ground := Ground.phase }], guard := none }) (v := ?_) rfl (by kernel_rfl) (by kernel_rfl) (by kernel_rfl) (fun _ _ _ h => h) (Or.inl ⟨by rfl, ?_⟩) sR ?_
          rotate_left
          · intro W hSw
            go_simp
            try with_reducible rfl
          simp only [Act.put, List.setIfInBounds_toArray, List.set_cons_zero, List.set_cons_succ]
          refine wpAnyH_done (by kernel_rfl) ?_ _
          have hb22 := bl_st sR hb2
          clear sR bR hS0
          go_wp2
          go_roundw
          case rel => exact ⟨k + 1, by omega, by go_num, hb22⟩
          case measure => simp [intOf]; omega
        · clear hk
          go_wp2
          go_loopw [22] (fun i wr => ∃ (t : Nat), (t : Int) ≤ x.p ∧ i = .int .i64 t ∧ Below wM.heap.size wM wr) (fun i _ => (x.p - intOf i).toNat)
          case atStart => exact ⟨0, by have := (unhide HR).p2; omega, rfl, hb⟩
          case round =>
            clear hb hlt
            obtain ⟨t, htp, rfl, hb⟩ := hrel
            have t0 : (0 : Int) ≤ (t : Int) := by omega
            have hp9 := (unhide HR).p9
            have hp2 := (unhide HR).p2
            obtain ⟨_, x0, x1, x2, x3⟩ := bc_row ((hb.block _ (Array.getElem?_eq_some_iff.1 (unhide M1)).1).trans (unhide M1))
            by_cases hlt : (t : Int) < x.p
            · have hin : inP x.p t = true := inP_nat hlt
              have H1 := hide (fun W hW => has21 (bloV x.p x.w (.slice A1 x.s.length c1) (.slice A2 x.b.length c2)) x t W hW (unhide HSM).1 (unhide HSM).2)
              have H2 := hide (fun W hW => has21 (bloV (mergeX x y).p (mergeX x y).w (.slice E1 n1 e1) (.slice E2 n2 e2)) (mergeX x y) t W hW (unhide SMM).1 (unhide SMM).2)
              have H3 := hide (fun W hW => has22 (bloV (mergeX x y).p (mergeX x y).w (.slice E1 n1 e1) (.slice E2 n2 e2)) (mergeX x y) t W hW (unhide SMM).1 (unhide SMM).2)
              rw [hasR_law (unhide HOK) hin] at H1
              rw [hasR_law (unhide OKM) (by rw [(unhide GX).p]; exact hin)] at H2 H3
              have himp := (unhide GX).has (t := t)
              generalize hasB x t = bx at *
              generalize hasB (mergeX x y) t = bz at *
              have HIMP := hide himp
              clear himp hin
              have K1 := hide (unhide H1 wr ((unhide M3).below hb))
              go_wp2_with fail
              refine (unhide K1).mono ?_
              rintro e wr2 ⟨rfl, b2⟩
              have hb2 := bl_st b2 hb
              obtain ⟨_, z0, z1, z2, z3⟩ := bc_row ((hb2.block _ (Array.getElem?_eq_some_iff.1 (unhide M7)).1).trans (unhide M7))
              have K2 := hide (unhide H2 wr2 ((unhide M6).below hb2))
              clear K1 b2 x0 x1 x2 x3 hb
              go_wp2_with fail
              refine (unhide K2).mono ?_
              rintro e wr3 ⟨rfl, b3⟩
              have hb3 := bl_st b3 hb2
              clear z0 z1 z2 z3
              obtain ⟨_, z0, z1, z2, z3⟩ := bc_row ((hb3.block _ (Array.getElem?_eq_some_iff.1 (unhide M7)).1).trans (unhide M7))
              have K3 := hide (unhide H3 wr3 ((unhide M6).below hb3))
              clear K2 b3 hb2
              go_wp2_with fail
              refine (unhide K3).mono ?_
              rintro e wr4 ⟨rfl, b4⟩
              have hb4 := bl_st b4 hb3
              clear z0 z1 z2 z3 K3 b4 hb3 H1 H2 H3
              cases bx <;> cases bz
              · go_wp2
                go_roundw
                case rel => exact ⟨t + 1, by omega, by go_num, hb4⟩
                case measure => simp [intOf]; omega
              · go_wp2
                go_roundw
                case rel => exact ⟨t + 1, by omega, by go_num, hb4⟩
                case measure => simp [intOf]; omega
              · exact absurd (unhide HIMP rfl) (by simp)
              · go_wp2
                go_roundw
                case rel => exact ⟨t + 1, by omega, by go_num, hb4⟩
                case measure => simp [intOf]; omega
            · have K1 := hide (unhide KK wr (bl_st hb (unhide M5)))
              go_wp2_with fail
              refine (unhide K1).mono ?_
              rintro e wr2 ⟨kq, rfl, hkq, b2⟩
              have hb2 := bl_st b2 hb
              have tg := unhide T7 0 (by omega)
              have H1 := hide (fun W hW => place23 (bloV x.p x.w (.slice A1 x.s.length c1) (.slice A2 x.b.length c2)) x (kq : Int) (ts.getD 0 0) W hW (unhide HSM).1 (unhide HSM).2)
              rw [plcR_ok (tag_ok (unhide HOK) (by rw [(unhide T6).1]; exact tg.1)) hkq] at H1
              have pin := plc_in (p := x.p) (x.s.getD kq noA) (ts.getD 0 0) (unhide HR).w1
              generalize plc x.p x.w (x.s.getD kq noA) (ts.getD 0 0) = pl at *
              obtain ⟨pl0, pl1⟩ := pin
              have w64 := (unhide HR).w64
              have w1' := (unhide HR).w1
              have kk0 : (0 : Int) ≤ (kq : Int) := by omega
              have kk4 : (kq : Int) < 4 := by omega
              have z0 : (0 : Int) ≤ (kq : Int) * x.w := Int.mul_nonneg kk0 (by omega)
              have z1 : (kq : Int) * x.w ≤ 4 * 64 := Int.mul_le_mul (by omega) w64 (by omega) (by omega)
              have hz2 : ((kq : Int) + 1) * x.w = (kq : Int) * x.w + x.w := by rw [Int.add_mul, Int.one_mul]
              have ltn : 0 < ts.length := by omega
              clear tg b2 K1 x0 x1 x2 x3 hb
              go_wp2
              refine wp_region_held (S := fun W' => Below wr2.heap.size wr2 W') (by kernel_rfl) ?_
              have hS0 : Below wr2.heap.size wr2 { wr2 with drawn := wr2.drawn + 1 } := below_drewN (Below.refl _ _) 1
              refine wpAnyH_take (i := 0) (oi := { dst := some 195, op := Op.load 26 (Operand.tmp 5), type := 26, pos := "laws.go:664", after := #[], guard := none }) (v := ?_) rfl (by kernel_rfl) (by kernel_rfl) (by kernel_rfl) (fun _ _ _ h => h) (Or.inl ⟨by rfl, ?_⟩) hS0 ?_
              rotate_left
              · intro W hSw
                obtain ⟨_, y0, y1, y2, y3⟩ := bc_row (((bl_st hSw hb2).block _ (Array.getElem?_eq_some_iff.1 (unhide M2)).1).trans (unhide M2))
                obtain ⟨_, z0, z1, z2, z3⟩ := bc_row (((bl_st hSw hb2).block _ (Array.getElem?_eq_some_iff.1 (unhide M7)).1).trans (unhide M7))
                obtain ⟨_, x0, x1, x2, x3⟩ := bc_row (((bl_st hSw hb2).block _ (Array.getElem?_eq_some_iff.1 (unhide M1)).1).trans (unhide M1))
                have tc := cell_rowO (((bl_st hSw hb2).block g (Array.getElem?_eq_some_iff.1 (unhide M0)).1).trans (unhide M0)) 0 (by omega)
                go_simp
                try with_reducible rfl
              simp only [Act.put, List.setIfInBounds_toArray, List.set_cons_zero, List.set_cons_succ]
              refine wpAnyH_take (i := 1) (oi := { dst := some 196, op := Op.move (Operand.tmp 29), type := 3, pos := "laws.go:664", after := #[], guard := none }) (v := ?_) rfl (by kernel_rfl) (by kernel_rfl) (by kernel_rfl) (fun _ _ _ h => h) (Or.inl ⟨by rfl, ?_⟩) hS0 ?_
              rotate_left
              · intro W hSw
                obtain ⟨_, y0, y1, y2, y3⟩ := bc_row (((bl_st hSw hb2).block _ (Array.getElem?_eq_some_iff.1 (unhide M2)).1).trans (unhide M2))
                obtain ⟨_, z0, z1, z2, z3⟩ := bc_row (((bl_st hSw hb2).block _ (Array.getElem?_eq_some_iff.1 (unhide M7)).1).trans (unhide M7))
                obtain ⟨_, x0, x1, x2, x3⟩ := bc_row (((bl_st hSw hb2).block _ (Array.getElem?_eq_some_iff.1 (unhide M1)).1).trans (unhide M1))
                have tc := cell_rowO (((bl_st hSw hb2).block g (Array.getElem?_eq_some_iff.1 (unhide M0)).1).trans (unhide M0)) 0 (by omega)
                go_simp
                try with_reducible rfl
              simp only [Act.put, List.setIfInBounds_toArray, List.set_cons_zero, List.set_cons_succ]
              refine wpAnyH_take (i := 2) (oi := { dst := some 197, op := Op.move (Operand.tmp 8), type := 31, pos := "laws.go:664", after := #[], guard := none }) (v := ?_) rfl (by kernel_rfl) (by kernel_rfl) (by kernel_rfl) (fun _ _ _ h => h) (Or.inl ⟨by rfl, ?_⟩) hS0 ?_
              rotate_left
              · intro W hSw
                obtain ⟨_, y0, y1, y2, y3⟩ := bc_row (((bl_st hSw hb2).block _ (Array.getElem?_eq_some_iff.1 (unhide M2)).1).trans (unhide M2))
                obtain ⟨_, z0, z1, z2, z3⟩ := bc_row (((bl_st hSw hb2).block _ (Array.getElem?_eq_some_iff.1 (unhide M7)).1).trans (unhide M7))
                obtain ⟨_, x0, x1, x2, x3⟩ := bc_row (((bl_st hSw hb2).block _ (Array.getElem?_eq_some_iff.1 (unhide M1)).1).trans (unhide M1))
                have tc := cell_rowO (((bl_st hSw hb2).block g (Array.getElem?_eq_some_iff.1 (unhide M0)).1).trans (unhide M0)) 0 (by omega)
                go_simp
                try with_reducible rfl
              simp only [Act.put, List.setIfInBounds_toArray, List.set_cons_zero, List.set_cons_succ]
              refine wpAnyH_take (i := 3) (oi := { dst := some 198, op := Op.indexAddr 31 (Operand.tmp 197) (Operand.const (Value.int IntKind.i64 0)), type := 0, pos := "laws.go:664", after := #[{ on := 2, ground := Ground.data }], guard := none }) (v := ?_) rfl (by kernel_rfl) (by kernel_rfl) (by kernel_rfl) (fun _ _ _ h => h) (Or.inl ⟨by rfl, ?_⟩) hS0 ?_
              rotate_left
              · intro W hSw
                obtain ⟨_, y0, y1, y2, y3⟩ := bc_row (((bl_st hSw hb2).block _ (Array.getElem?_eq_some_iff.1 (unhide M2)).1).trans (unhide M2))
                obtain ⟨_, z0, z1, z2, z3⟩ := bc_row (((bl_st hSw hb2).block _ (Array.getElem?_eq_some_iff.1 (unhide M7)).1).trans (unhide M7))
                obtain ⟨_, x0, x1, x2, x3⟩ := bc_row (((bl_st hSw hb2).block _ (Array.getElem?_eq_some_iff.1 (unhide M1)).1).trans (unhide M1))
                have tc := cell_rowO (((bl_st hSw hb2).block g (Array.getElem?_eq_some_iff.1 (unhide M0)).1).trans (unhide M0)) 0 (by omega)
                go_simp
                try with_reducible rfl
              simp only [Act.put, List.setIfInBounds_toArray, List.set_cons_zero, List.set_cons_succ]
              refine wpAnyH_take (i := 4) (oi := { dst := some 199, op := Op.load 3 (Operand.tmp 198), type := 3, pos := "laws.go:664", after := #[{ on := 3, ground := Ground.data }], guard := none }) (v := ?_) rfl (by kernel_rfl) (by kernel_rfl) (by kernel_rfl) (fun _ _ _ h => h) (Or.inl ⟨by rfl, ?_⟩) hS0 ?_
              rotate_left
              · intro W hSw
                obtain ⟨_, y0, y1, y2, y3⟩ := bc_row (((bl_st hSw hb2).block _ (Array.getElem?_eq_some_iff.1 (unhide M2)).1).trans (unhide M2))
                obtain ⟨_, z0, z1, z2, z3⟩ := bc_row (((bl_st hSw hb2).block _ (Array.getElem?_eq_some_iff.1 (unhide M7)).1).trans (unhide M7))
                obtain ⟨_, x0, x1, x2, x3⟩ := bc_row (((bl_st hSw hb2).block _ (Array.getElem?_eq_some_iff.1 (unhide M1)).1).trans (unhide M1))
                have tc := cell_rowO (((bl_st hSw hb2).block g (Array.getElem?_eq_some_iff.1 (unhide M0)).1).trans (unhide M0)) 0 (by omega)
                go_simp
                try with_reducible rfl
              simp only [Act.put, List.setIfInBounds_toArray, List.set_cons_zero, List.set_cons_succ]
              refine wpAnyH_one (i := 5) (by kernel_rfl) ?_
              refine wpOp_step (o := { dst := some 200, op := Op.call { callee := Callee.value (Operand.func 23), args := #[Operand.tmp 195, Operand.tmp 196, Operand.tmp 199], argTypes := #[26, 3, 3] }, type := 38, pos := "laws.go:664", after := #[{ on := 0, ground := Ground.data }, { on := 1, ground := Ground.data }, { on := 4, ground := Ground.data }], guard := none }) rfl fun K' hK => step_enterW (by rfl) 23 #[bloV x.p x.w (.slice A1 x.s.length c1) (.slice A2 x.b.length c2), .int .i64 (kq : Int), .int .i64 (ts.getD 0 0)] (by go_simp) ((unhide H1 _ ((unhide M3).below (bl_st hS0 hb2))).mono ?_)
              rintro e wr3 ⟨rfl, bR⟩
              have sR := bl_st bR hS0
              refine ⟨_, rfl, hK _ _ ⟨sR, ?_⟩⟩
              simp only [Act.put, List.setIfInBounds_toArray, List.set_cons_zero, List.set_cons_succ]
              refine wpAnyH_take (i := 6) (oi := { dst := some 194, op := Op.move (Operand.tmp 200), type := 38, pos := "laws.go:664", after := #[{ on := 5, ground := Ground.data }], guard := none }) (v := ?_) rfl (by kernel_rfl) (by kernel_rfl) (by kernel_rfl) (fun _ _ _ h => h) (Or.inl ⟨by rfl, ?_⟩) sR ?_
              rotate_left
              · intro W hSw
                go_simp
                try with_reducible rfl
              simp only [Act.put, List.setIfInBounds_toArray, List.set_cons_zero, List.set_cons_succ]
              refine wpAnyH_take (i := 7) (oi := { dst := some 201, op := Op.extract (Operand.tmp 194) 0, type := 3, pos := "laws.go:664", after := #[{ on := 6, ground := Ground.data }], guard := none }) (v := ?_) rfl (by kernel_rfl) (by kernel_rfl) (by kernel_rfl) (fun _ _ _ h => h) (Or.inl ⟨by rfl, ?_⟩) sR ?_
              rotate_left
              · intro W hSw
                go_simp
                try with_reducible rfl
              simp only [Act.put, List.setIfInBounds_toArray, List.set_cons_zero, List.set_cons_succ]
              refine wpAnyH_take (i := 8) (oi := { dst := some 202, op := Op.extract (Operand.tmp 194) 1, type := 3, pos := "laws.go:664", after := #[{ on := 6, ground := Ground.data }, { on := 9, ground := Ground.gcOnly Departure.lateStores }], guard := none }) (v := ?_) rfl (by kernel_rfl) (by kernel_rfl) (by kernel_rfl) (fun _ _ _ h => h) (Or.inl ⟨by rfl, ?_⟩) sR ?_
              rotate_left
              · intro W hSw
                go_simp
                try with_reducible rfl
              simp only [Act.put, List.setIfInBounds_toArray, List.set_cons_zero, List.set_cons_succ]
              refine wpAnyH_take (i := 9) (oi := { dst := some 30, op := Op.assign (Operand.tmp 201), type := 3, pos := "laws.go:664", after := #[{ on := 7, ground := Ground.data }, { on := 5, ground := Ground.chain }, { on := 0, ground := Ground.phase }, { on := 1, ground := Ground.phase }, { on := 2, ground := Ground.phase }, { on := 3, ground := Ground.phase }, { on := 4, ground := Ground.phase }, { on := 5, ground := Ground.phase }, { on := 6, ground := Ground.phase }, { on := 7, ground := Ground.phase }, { on := 8, ground := Ground.textOnly Departure.lateStores }], guard := none }) (v := ?_) rfl (by kernel_rfl) (by kernel_rfl) (by kernel_rfl) (fun _ _ _ h => h) (Or.inl ⟨by rfl, ?_⟩) sR ?_
              rotate_left
              · intro W hSw
                go_simp
                try with_reducible rfl
              simp only [Act.put, List.setIfInBounds_toArray, List.set_cons_zero, List.set_cons_succ]
              refine wpAnyH_take (i := 10) (oi := { dst := some 31, op := Op.assign (Operand.tmp 202), type := 3, pos := "laws.go:664", after := #[{ on := 8, ground := Ground.data }, { on := 9, ground := Ground.chain }, { on := 0, ground := Ground.phase }, { on := 1, ground := Ground.phase }, { on := 2, ground := Ground.phase }, { on := 3, ground := Ground.phase }, { on := 4, ground := Ground.phase }, { on := 5, ground := Ground.phase }, { on := 6, ground := Ground.phase }, { on := 7, ground := Ground.phase }, { on := 8, ground := Ground.phase }, { on := 9, ground := Ground.phase }], guard := none }) (v := ?_) rfl (by kernel_rfl) (by kernel_rfl) (by kernel_rfl) (fun _ _ _ h => h) (Or.inl ⟨by rfl, ?_⟩) sR ?_
              rotate_left
              · intro W hSw
                go_simp
                try with_reducible rfl
              simp only [Act.put, List.setIfInBounds_toArray, List.set_cons_zero, List.set_cons_succ]
              refine wpAnyH_done (by kernel_rfl) ?_ _
              have hb22 := bl_st sR hb2
              clear sR bR hS0
              obtain ⟨_, x0, x1, x2, x3⟩ := bc_row ((hb22.block _ (Array.getElem?_eq_some_iff.1 (unhide M1)).1).trans (unhide M1))
              have HBF := hide (bl_st hb22 (unhide M5))
              clear hb22 hb2 H1
              generalize hzz : (kq : Int) * x.w = zz at *
              have f1 : zz ≤ zz + pl := by omega
              have f2 : zz + pl < zz + x.w := by omega
              have f3 : decide (zz + pl < zz + x.w) = true := decide_eq_true f2
              go_wp2
              go_ret
              exact ⟨rfl, unhide HBF⟩
end Go.Proofs.Ythckgccfjpgbaaa
