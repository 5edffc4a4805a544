/- The law on exchanged bodies. -/
import Derived.Test.YtggiijlgdpkkfaaExs
import Derived.Test.YtggiijlgdpkkfaaFem
import Derived.Test.YtggiijlgdpkkfaaAof
namespace Go.Proofs.Ytggiijlgdpkkfaa
open Go.RowKit Go.Maps
set_option maxHeartbeats 4000000
set_option maxRecDepth 20000
theorem same14 (a b : Value) (ts : List ByteArray) (w : World) (ha : strsV w a ts) (hb : strsV w b ts) (hn : ts.length ≤ 2097152) :
    Calls Try.prog 14 #[a, b] w fun e w' => e = .returned (.bool true) ∧ ∃ k, w' = w.drewN k := by
  obtain ⟨A, ca, rfl, hc⟩ := ha
  obtain ⟨A2, cb, rfl, hd⟩ := hb
  have HC := hide hc
  have HD := hide hd
  obtain ⟨n, hnx⟩ : ∃ n, n = ts.length := ⟨_, rfl⟩
  rw [← hnx] at hn HC HD ⊢
  clear hc hd hnx
  go_enter Try.func14, Try.ntmps14
  go_wp2
  go_loopw [5] (fun i wr => ∃ j k : Nat, j ≤ n ∧ i = .int .i64 j ∧ wr = w.drewN k) (fun i _ => n - (intOf i).toNat)
  case atStart => exact ⟨0, 0, by omega, rfl, rfl⟩
  case round =>
    obtain ⟨j, k, hj, rfl, rfl⟩ := hrel
    by_cases hlt : j < n
    · obtain ⟨b1, o1, hA, _, hc1⟩ := unhide HC (by omega)
      obtain ⟨b2, o2, hA2, _, hc2⟩ := unhide HD (by omega)
      subst hA hA2
      have q1 : (j : Int) < (n : Int) := by omega
      have q0 : (0 : Int) ≤ (j : Int) := by omega
      have p1 : ∀ k, (w.drewN k).cell? ⟨b1, o1 + j, none⟩ = some (.string (ts.getD j noS)) := fun k => hc1 j hlt
      have p2 : ∀ k, (w.drewN k).cell? ⟨b2, o2 + j, none⟩ = some (.string (ts.getD j noS)) := fun k => hc2 j hlt
      have HJ := hide hlt
      clear hc1 hc2 hlt hj
      generalize ts.getD j noS = xj at *
      go_wp2
      go_quiet (fail)
      rw [show (w.drewN k).drewN nq = w.drewN (k + nq) by simp [World.drewN, Nat.add_assoc]]
      go_wp2
      go_roundw
      case rel => exact ⟨j + 1, _, unhide HJ, by go_num, rfl⟩
      case measure => have := unhide HJ; simp [intOf]; omega
    · obtain rfl : j = n := by omega
      clear hlt
      go_wp2
      go_ret
      exact ⟨rfl, k, rfl⟩
theorem info3 : (Try.prog.info? 3).map (fun i => (i.zero, i.size, i.bytes)) = some (some (.int .i64 0), 1, 8) := by kernel_rfl
theorem acC_right {ps : List Acs} (h : ps.length ≤ 7) (hr : rightA ps) : acC ps = 0 := by
  unfold acC acB
  rw [if_neg (by omega), decide_eq_true (by omega), Bool.true_and, show ps.all isAc = true from List.all_eq_true.2 (fun p hp => by
    unfold isAc
    rw [decide_eq_true (hr p hp).1, decide_eq_true (show p.2.size ≤ 400 by have := (hr p hp).2; omega)]; rfl)]
  rfl
abbrev natV (L : List Nat) : List Value := L.map fun k : Nat => Value.int .i64 (k : Int)
theorem row_nat {w : World} {base g n c : Nat} {L : List Nat} (h : w.ownsRow base 3 1 (.slice (some ⟨g, 0, none⟩) n c) n (natV L)) (i : Nat) (hi : i < L.length) : w.cell? ⟨g, i, none⟩ = some (.int .i64 ((L.getD i 0 : Nat) : Int)) := by
  have := h.cells (g := g) rfl i (.int .i64 ((L.getD i 0 : Nat) : Int)) (by rw [List.getElem?_map, List.getElem?_eq_getElem hi, List.getD_eq_getElem?_getD, List.getElem?_eq_getElem hi]; rfl)
  rwa [Addr.add_lit, Nat.zero_add] at this
theorem isEmpty_txt (y : ByteArray) : y.toList.isEmpty = decide (y = noS) := by
  rw [ByteArray.toList_eq, Bool.eq_iff_iff, List.isEmpty_iff, decide_eq_true_iff]
  constructor
  · intro h
    cases y
    simp at h
    simp [h]
  · rintro rfl; rfl
theorem law_fexch (w : World) (A : Option Addr) (n cap : Nat) (hn : n ≤ maxLen) (hc : codeAt w A n) :
    Calls Try.prog 4 #[.slice A n cap] w fun e w' => e = .returned (.bool true) ∧ Below w.heap.size w w' := by
  have KA := hide (accesses9 A n cap hn w hc)
  unfold maxLen at hn
  have n0 : (0 : Int) ≤ (n : Int) := by omega
  have n1 : (n : Int) ≤ 9223372036854775807 := by omega
  clear hn hc
  by_cases h1 : 1048576 < (n : Int)
  · clear KA
    go_enter Try.func4, Try.ntmps4
    go_wp2
    go_ret
    exact ⟨rfl, Below.refl _ _⟩
  have h1' : (n : Int) ≤ 1048576 := by omega
  clear h1 n1
  obtain ⟨i0, hi0, hz0, hz1, hz2⟩ := info_parts info3
  go_enter Try.func4, Try.ntmps4
  go_wp2_with fail
  refine (unhide KA).mono ?_
  rintro e w1 ⟨r, ps, rfl, hl, hr, ho, hb⟩
  have B1 := hide hb
  have OA := hide ho.acs
  have HL := hide hl
  have ec : acC ps = 0 := acC_right hl hr
  have er : exR ps = gL ps all2 := by unfold exR; rw [if_pos ec]
  have KI : Hid (∀ u W, acsV W u ps → Calls Try.prog 12 #[u] W fun e w' => ∃ r, e = .returned (.tuple #[r, .int .i64 0]) ∧ ownS W.heap.size w'.heap.size w' r (gL ps all2) ∧ Below W.heap.size W w') := hide (fun u W hu => by
    have := exch12 u ps W hu (by omega)
    unfold outE at this
    rw [ec, er] at this
    exact this)
  have KS : Hid (∀ u W, acsV W u ps → Calls Try.prog 13 #[u] W fun e w' => ∃ r, e = .returned (.tuple #[r, .int .i64 0]) ∧ ownS W.heap.size w'.heap.size w' r (gL ps all2) ∧ Below W.heap.size W w') := hide (fun u W hu => by
    have := exch13 u ps W hu (by omega)
    unfold outE at this
    rw [ec, er] at this
    exact this)
  clear KA ho hb hr ec er
  obtain ⟨RA, rc, hre, _⟩ := unhide OA
  subst hre
  go_wp2_with fail
  refine (unhide KI _ _ (unhide OA)).mono ?_
  rintro e w2 ⟨r2, rfl, o2, b2⟩
  have B2 := hide (bl_st b2 (unhide B1))
  have OA2 := hide ((unhide OA).below b2)
  have OG2 := hide o2.strs
  clear OA B1 o2 b2 KI
  go_wp2_with fail
  refine (unhide KS _ _ (unhide OA2)).mono ?_
  rintro e w3 ⟨r3, rfl, o3, b3⟩
  have B3 := hide (bl_st b3 (unhide B2))
  have OA3 := hide ((unhide OA2).below b3)
  have OG3 := hide ((unhide OG2).below b3)
  have OW3 := hide o3.strs
  clear OA2 OG2 B2 o3 b3 KS
  have KE := hide (same14 _ _ _ w3 (unhide OG3) (unhide OW3) (by rw [gL_len]; omega))
  obtain ⟨GA, gc, hge, _⟩ := unhide OG3
  rw [gL_len] at hge
  subst hge
  have l0 : (0 : Int) ≤ (ps.length : Int) := by omega
  have l1 : (ps.length : Int) ≤ 7 := by omega
  clear hl
  go_wp2_with fail
  refine (unhide KE).mono ?_
  rintro e w4 ⟨rfl, k4, hw4⟩
  have b4 : Below w3.heap.size w3 w4 := by rw [hw4]; exact below_drewN (Below.refl _ _) k4
  have B4 := hide (bl_st b4 (unhide B3))
  have OA4 := hide ((unhide OA3).below b4)
  have OG4 := hide ((unhide OG3).below b4)
  clear OA3 OG3 OW3 B3 hw4 b4 KE
  have HCA : Hid (0 < ps.length → ∃ b off, RA = some ⟨b, off, none⟩ ∧ ∀ W, Below w4.heap.size w4 W → ∀ k, k < ps.length → W.cell? ⟨b, off + k * 2, none⟩ = some (.string (dr ps k)) ∧ W.cell? ⟨b, off + k * 2 + 1, none⟩ = some (.string (bd ps k))) := hide (fun h0 => by
    obtain ⟨_, _, e, hcc⟩ := unhide OA4
    simp only [Value.slice.injEq] at e
    obtain ⟨rfl, _, _⟩ := e
    obtain ⟨b, off, hA, hb, hcell⟩ := hcc h0
    exact ⟨b, off, hA, fun W hW k hk => ⟨((hcell k hk).below hb hW).c0, ((hcell k hk).below hb hW).c1⟩⟩)
  have HCG : Hid (0 < ps.length → ∃ b off, GA = some ⟨b, off, none⟩ ∧ ∀ W, Below w4.heap.size w4 W → ∀ k, k < ps.length → W.cell? ⟨b, off + k, none⟩ = some (.string (gA ps all2 k))) := hide (fun h0 => by
    obtain ⟨_, _, e, hcc⟩ := unhide OG4
    rw [gL_len] at e hcc
    simp only [Value.slice.injEq] at e
    obtain ⟨rfl, _, _⟩ := e
    obtain ⟨b, off, hA, hb, hcell⟩ := hcc h0
    exact ⟨b, off, hA, fun W hW k hk => by rw [← gL_at hk]; exact (cell_below hW hb).trans (hcell k hk)⟩)
  clear OA4 OG4
  go_wp2
  go_loopw [8] (fun i wr => ∃ j : Nat, j ≤ ps.length ∧ i = .int .i64 j ∧ Below w4.heap.size w4 wr) (fun i _ => ps.length - (intOf i).toNat)
  case atStart => exact ⟨0, by omega, rfl, Below.refl _ _⟩
  case round =>
    obtain ⟨i, hi, rfl, hbl⟩ := hrel
    by_cases hlt : i < ps.length
    · obtain ⟨b, off, hA, hcell⟩ := unhide HCA (by omega)
      obtain ⟨bg, og, hG, hgc⟩ := unhide HCG (by omega)
      subst hA hG
      have q1 : (i : Int) < (ps.length : Int) := by omega
      have q0 : (0 : Int) ≤ (i : Int) := by omega
      have HC := hide hcell
      have HG := hide hgc
      have HI := hide hlt
      have HB := hide hbl
      have HQ : Hid (w4.heap.size ≤ wr.heap.size) := hide hbl.size
      have O1 := hide (World.ownsRow_made wr (e := 3) (size := 1) #[] 0 (Nat.le_refl _) (Nat.zero_le _) rfl)
      have BA := hide (bl_al (o := .cells #[] 3) hbl)
      clear hcell hgc hlt hi hbl HCA HCG
      go_wp2
      generalize hqq : wr.heap.size = q at *
      have HQQ := hide hqq
      clear hqq
      go_loopw [9, 10] (fun o k w5 => ∃ (m g c : Nat), m ≤ ps.length ∧ k = .int .i64 m ∧ o = .slice (some ⟨g, 0, none⟩) (oth ps i m).length c ∧ w5.ownsRow q 3 1 (.slice (some ⟨g, 0, none⟩) (oth ps i m).length c) (oth ps i m).length (natV (oth ps i m)) ∧ Below w4.heap.size w4 w5) (fun _ k _ => ps.length - (intOf k).toNat)
      case atStart => exact ⟨0, q, 0, by omega, rfl, rfl, unhide O1, unhide BA⟩
      case round =>
        obtain ⟨m, g, c, hm, rfl, rfl, hown, hbl⟩ := hrel
        by_cases hlt : m < ps.length
        · have r1 : (m : Int) < (ps.length : Int) := by omega
          have r0 : (0 : Int) ≤ (m : Int) := by omega
          have c0 : ∀ k, (wr.drewN k).cell? ⟨b, off + m * 2, none⟩ = some (.string (dr ps m)) := fun k => (unhide HC wr hbl m hlt).1
          have c1 : ∀ k, (wr.drewN k).cell? ⟨b, off + i * 2, none⟩ = some (.string (dr ps i)) := fun k => (unhide HC wr hbl i (unhide HI)).1
          have HS := hide (oth_snoc ps i m)
          have HM := hide hlt
          have HOL := hide (oth_len ps i m)
          have OWN := hide hown
          have HB2 := hide hbl
          clear hlt hm hown hbl O1 BA HB
          generalize hdm : dr ps m = x at *
          generalize hdi : dr ps i = d at *
          have HDM := hide hdm
          have HDI := hide hdi
          clear hdm hdi
          by_cases hmi : m = i
          · subst hmi
            have HE : Hid (oth ps m (m + 1) = oth ps m m) := hide (by rw [unhide HS, if_neg (fun q => q.1 rfl)])
            clear HS
            go_wp2
            go_quiet (fail)
            have Z1 : Hid ((wr.drewN nq).ownsRow q 3 1 (.slice (some ⟨g, 0, none⟩) (oth ps m m).length c) (oth ps m m).length (natV (oth ps m m)) ∧ Below w4.heap.size w4 (wr.drewN nq)) := hide ⟨unhide OWN, below_drewN (unhide HB2) nq⟩
            clear c0 c1 OWN HB2
            generalize wr.drewN nq = Z at *
            go_wp2
            go_roundw
            case rel => exact ⟨m + 1, g, c, unhide HM, by go_num, by rw [unhide HE], by rw [unhide HE]; exact (unhide Z1).1, (unhide Z1).2⟩
            case measure => have := unhide HM; simp [intOf]; omega
          · have hne : ¬ (m : Int) = (i : Int) := by omega
            by_cases hd : x = d
            · have HE : Hid (oth ps i (m + 1) = oth ps i m ++ [m]) := hide (by rw [unhide HS, if_pos ⟨hmi, hd⟩])
              subst hd
              clear HS hmi
              go_wp2
              go_quiet (fail)
              have Z1 : Hid ((wr.drewN nq).ownsRow q 3 1 (.slice (some ⟨g, 0, none⟩) (oth ps i m).length c) (oth ps i m).length (natV (oth ps i m)) ∧ Below w4.heap.size w4 (wr.drewN nq)) := hide ⟨unhide OWN, below_drewN (unhide HB2) nq⟩
              clear c0 c1 OWN HB2
              generalize wr.drewN nq = Z at *
              have zo := (unhide Z1).1
              have zb := (unhide Z1).2
              have hol := unhide HOL
              have hml := unhide HM
              have zlt := zo.lt g rfl
              generalize hLL : oth ps i m = LL at *
              clear hLL Z1 HOL
              go_wp2_with (first
                | (at_builtin; refine wpList_append_lies _ rfl _ _ 36 rfl q 3 i0 (.int .i64 0) 1 8 Try.underlying36 hi0 hz0 hz1 hz2 rfl (by omega) (.slice (some ⟨g, 0, none⟩) LL.length c) LL.length (natV LL) rfl (zo.alloc _) ⟨Z.heap.size, 0, none⟩ 1 1 [.int .i64 (m : Int)] rfl rfl (World.news_of_block (cs := #[.int .i64 (m : Int)]) (t := 3) (fr := (0, 0)) (heap_alloc_new Z _)) (by simp [Value.oneCell']) (by omega) (by unfold maxLen; omega) (by omega) (by simp; omega) (Z.heap.size + 1) (by simp) ?_; intro g5 c5 w5 hown5 hgrow5 hat5 hlt5)
                | go_in)
              go_roundw
              case rel =>
                refine ⟨m + 1, g5, c5, hml, by go_num, by rw [unhide HE, List.length_append]; rfl, ?_, ?_⟩
                · rw [unhide HE, List.length_append]
                  have : natV (LL ++ [m]) = natV LL ++ [.int .i64 (m : Int)] := by simp [natV]
                  rw [this]
                  exact hown5
                · exact (bl_al zb).grown hgrow5 (by have := zb.size; simp; omega) (fun k hk => by have e : g = k := Option.some.inj hk; have := unhide HQ; omega)
              case measure => have := unhide HM; simp [intOf]; omega
            · have HE : Hid (oth ps i (m + 1) = oth ps i m) := hide (by rw [unhide HS, if_neg (fun q => hd q.2)])
              clear HS hmi
              go_wp2
              go_quiet (fail)
              rw [beq_txt, decide_eq_false hd]
              have Z1 : Hid ((wr.drewN nq).ownsRow q 3 1 (.slice (some ⟨g, 0, none⟩) (oth ps i m).length c) (oth ps i m).length (natV (oth ps i m)) ∧ Below w4.heap.size w4 (wr.drewN nq)) := hide ⟨unhide OWN, below_drewN (unhide HB2) nq⟩
              clear c0 c1 OWN HB2 hd
              generalize wr.drewN nq = Z at *
              go_wp2
              · exact absurd (by assumption : ((m : Int) != (i : Int)) = true ∧ false = true).2 (by decide)
              go_roundw
              case rel => exact ⟨m + 1, g, c, unhide HM, by go_num, by rw [unhide HE], by rw [unhide HE]; exact (unhide Z1).1, (unhide Z1).2⟩
              case measure => have := unhide HM; simp [intOf]; omega
        · obtain rfl : m = ps.length := by omega
          have y0 : ∀ k, (wr.drewN k).cell? ⟨bg, og + i, none⟩ = some (.string (gA ps all2 i)) := fun k => unhide HG wr hbl i (unhide HI)
          have HY : Hid (∀ W, Below w4.heap.size w4 W → W.cell? ⟨bg, og + i, none⟩ = some (.string (gA ps all2 i))) := hide (fun W hW => unhide HG W hW i (unhide HI))
          have BAL := hide (fun h => gA_alone (ps := ps) (i := i) h)
          have BTW := hide (fun k h => gA_two (k := k) (unhide HI) h)
          have FE := hide (fnd_end ps i)
          have FS := hide (fun m h => fnd_step ps (oth ps i ps.length) (gA ps all2 i) m h)
          have F0 : Hid (fnd ps (oth ps i ps.length) (gA ps all2 i) 0 = decide (gA ps all2 i = noS)) := hide (by unfold fnd; simp)
          have OLT : Hid (∀ t, t < (oth ps i ps.length).length → (oth ps i ps.length).getD t 0 < ps.length) := hide (fun t ht => by
            rw [List.getD_eq_getElem?_getD, List.getElem?_eq_getElem ht]
            exact (oth_mem.1 (List.getElem_mem ht)).1)
          have OL := oth_len ps i ps.length
          have OWN := hide hown
          have HB2 := hide hbl
          clear hlt hm hown hbl O1 BA HB
          generalize oth ps i ps.length = L at *
          generalize gA ps all2 i = y at *
          have hLL : (L.length : Int) ≤ 7 := by omega
          have hL0 : (0 : Int) ≤ (L.length : Int) := by omega
          clear OL
          rcases (show L.length = 0 ∨ L.length = 1 ∨ 2 ≤ L.length by omega) with e0 | e1 | e2
          · have ey := unhide BAL (List.length_eq_zero_iff.1 e0)
            subst ey
            go_wp2
            go_quiet (fail)
            have Z1 : Hid (Below w4.heap.size w4 (wr.drewN nq)) := hide (below_drewN (unhide HB2) nq)
            have z0 := y0 nq
            clear y0 OWN HB2
            generalize wr.drewN nq = Z at *
            go_wp2
            refine wp_loop_rounds 1 ?_
            rw [rounds_succ]
            go_wp2
            go_roundw
            case rel => exact ⟨i + 1, unhide HI, by go_num, unhide Z1⟩
            case measure => have := unhide HI; simp [intOf]; omega
          · obtain ⟨k, hk⟩ := List.length_eq_one_iff.1 e1
            have ey := unhide BTW k hk
            have E1 := hide e1
            have d0 : ∀ n, (wr.drewN n).cell? ⟨g, 0, none⟩ = some (.int .i64 (k : Int)) := fun n => by
              have := row_nat (unhide OWN) 0 (by omega)
              rw [hk] at this
              exact this
            have hkl : k < ps.length := by have := unhide OLT 0 (by omega); rw [hk] at this; exact this
            have d1 : ∀ n, (wr.drewN n).cell? ⟨b, off + k * 2 + 1, none⟩ = some (.string y) := fun n => by rw [ey]; exact (unhide HC wr (unhide HB2) k hkl).2
            have k0 : (k : Int) < (ps.length : Int) := by omega
            have k1 : (0 : Int) ≤ (k : Int) := by omega
            clear hk ey hkl
            go_wp2
            go_quiet (fail)
            have Z1 : Hid ((wr.drewN nq).ownsRow q 3 1 (.slice (some ⟨g, 0, none⟩) L.length c) L.length (natV L) ∧ Below w4.heap.size w4 (wr.drewN nq)) := hide ⟨unhide OWN, below_drewN (unhide HB2) nq⟩
            have z0 := y0 nq
            clear y0 OWN HB2 e1 d0 d1
            generalize wr.drewN nq = Z at *
            go_wp2
            clear z0
            go_loopw [11, 12] (fun f k w5 => ∃ t : Nat, t ≤ L.length ∧ k = .int .i64 t ∧ f = .bool (fnd ps L y t) ∧ w5.ownsRow q 3 1 (.slice (some ⟨g, 0, none⟩) L.length c) L.length (natV L) ∧ Below w4.heap.size w4 w5) (fun _ k _ => L.length - (intOf k).toNat)
            case atStart => exact ⟨0, by omega, rfl, by rw [unhide F0, isEmpty_txt], (unhide Z1).1, (unhide Z1).2⟩
            case round =>
              obtain ⟨t, ht, rfl, rfl, hown, hbl⟩ := hrel
              by_cases hlt : t < L.length
              · have s1 : (t : Int) < (L.length : Int) := by omega
                have s0 : (0 : Int) ≤ (t : Int) := by omega
                have c0 : ∀ k, (wr.drewN k).cell? ⟨g, t, none⟩ = some (.int .i64 ((L.getD t 0 : Nat) : Int)) := fun k => row_nat hown t hlt
                have hkl := unhide OLT t hlt
                have c1 : ∀ k, (wr.drewN k).cell? ⟨b, off + L.getD t 0 * 2 + 1, none⟩ = some (.string (bd ps (L.getD t 0))) := fun k => (unhide HC wr hbl (L.getD t 0) hkl).2
                have c2 : ∀ k, (wr.drewN k).cell? ⟨bg, og + i, none⟩ = some (.string y) := fun k => unhide HY wr hbl
                have HS := hide (unhide FS t hlt)
                have HT := hide hlt
                have OWN := hide hown
                have HB2 := hide hbl
                have k0 : ((L.getD t 0 : Nat) : Int) < (ps.length : Int) := by omega
                have k1 : (0 : Int) ≤ ((L.getD t 0 : Nat) : Int) := by omega
                clear hlt ht hown hbl Z1 hkl
                generalize hbx : bd ps (L.getD t 0) = x at *
                generalize hkt : L.getD t 0 = kt at *
                clear hbx hkt
                generalize fnd ps L y t = fb at *
                cases fb
                · go_wp2
                  go_quiet (fail)
                  rw [beq_txt]
                  have Z2 : Hid ((wr.drewN nq).ownsRow q 3 1 (.slice (some ⟨g, 0, none⟩) L.length c) L.length (natV L) ∧ Below w4.heap.size w4 (wr.drewN nq)) := hide ⟨unhide OWN, below_drewN (unhide HB2) nq⟩
                  clear c0 c1 c2 OWN HB2
                  generalize wr.drewN nq = Z2w at *
                  go_wp2
                  go_roundw
                  case rel => exact ⟨t + 1, unhide HT, by go_num, by rw [unhide HS]; rfl, (unhide Z2).1, (unhide Z2).2⟩
                  case measure => have := unhide HT; simp [intOf]; omega
                · go_wp2
                  go_quiet (fail)
                  have Z2 : Hid ((wr.drewN nq).ownsRow q 3 1 (.slice (some ⟨g, 0, none⟩) L.length c) L.length (natV L) ∧ Below w4.heap.size w4 (wr.drewN nq)) := hide ⟨unhide OWN, below_drewN (unhide HB2) nq⟩
                  clear c0 c1 c2 OWN HB2
                  generalize wr.drewN nq = Z2w at *
                  go_wp2
                  go_roundw
                  case rel => exact ⟨t + 1, unhide HT, by go_num, by rw [unhide HS]; rfl, (unhide Z2).1, (unhide Z2).2⟩
                  case measure => have := unhide HT; simp [intOf]; omega
              · obtain rfl : t = L.length := by omega
                rw [unhide FE]
                have HB2 := hide hbl
                clear hlt ht hown hbl Z1
                go_wp2
                go_roundw
                case rel => exact ⟨i + 1, unhide HI, by go_num, unhide HB2⟩
                case measure => have := unhide HI; simp [intOf]; omega
          · have g2 : (2 : Int) ≤ (L.length : Int) := by omega
            have g3 : ((L.length : Int) == 0) = false := by rw [beq_eq_false_iff_ne]; omega
            have g4 : ((L.length : Int) == 1) = false := by rw [beq_eq_false_iff_ne]; omega
            have g5 : ¬ (L.length : Int) = 0 := by omega
            have g6 : ¬ (L.length : Int) = 1 := by omega
            go_wp2
            go_quiet (fail)
            have Z1 : Hid ((wr.drewN nq).ownsRow q 3 1 (.slice (some ⟨g, 0, none⟩) L.length c) L.length (natV L) ∧ Below w4.heap.size w4 (wr.drewN nq)) := hide ⟨unhide OWN, below_drewN (unhide HB2) nq⟩
            have z0 := y0 nq
            clear y0 OWN HB2 g2 g3 g4 g5 g6
            generalize wr.drewN nq = Z at *
            go_wp2
            clear z0
            go_loopw [11, 12] (fun f k w5 => ∃ t : Nat, t ≤ L.length ∧ k = .int .i64 t ∧ f = .bool (fnd ps L y t) ∧ w5.ownsRow q 3 1 (.slice (some ⟨g, 0, none⟩) L.length c) L.length (natV L) ∧ Below w4.heap.size w4 w5) (fun _ k _ => L.length - (intOf k).toNat)
            case atStart => exact ⟨0, by omega, rfl, by rw [unhide F0, isEmpty_txt], (unhide Z1).1, (unhide Z1).2⟩
            case round =>
              obtain ⟨t, ht, rfl, rfl, hown, hbl⟩ := hrel
              by_cases hlt : t < L.length
              · have s1 : (t : Int) < (L.length : Int) := by omega
                have s0 : (0 : Int) ≤ (t : Int) := by omega
                have c0 : ∀ k, (wr.drewN k).cell? ⟨g, t, none⟩ = some (.int .i64 ((L.getD t 0 : Nat) : Int)) := fun k => row_nat hown t hlt
                have hkl := unhide OLT t hlt
                have c1 : ∀ k, (wr.drewN k).cell? ⟨b, off + L.getD t 0 * 2 + 1, none⟩ = some (.string (bd ps (L.getD t 0))) := fun k => (unhide HC wr hbl (L.getD t 0) hkl).2
                have c2 : ∀ k, (wr.drewN k).cell? ⟨bg, og + i, none⟩ = some (.string y) := fun k => unhide HY wr hbl
                have HS := hide (unhide FS t hlt)
                have HT := hide hlt
                have OWN := hide hown
                have HB2 := hide hbl
                have k0 : ((L.getD t 0 : Nat) : Int) < (ps.length : Int) := by omega
                have k1 : (0 : Int) ≤ ((L.getD t 0 : Nat) : Int) := by omega
                clear hlt ht hown hbl Z1 hkl
                generalize hbx : bd ps (L.getD t 0) = x at *
                generalize hkt : L.getD t 0 = kt at *
                clear hbx hkt
                generalize fnd ps L y t = fb at *
                cases fb
                · go_wp2
                  go_quiet (fail)
                  rw [beq_txt]
                  have Z2 : Hid ((wr.drewN nq).ownsRow q 3 1 (.slice (some ⟨g, 0, none⟩) L.length c) L.length (natV L) ∧ Below w4.heap.size w4 (wr.drewN nq)) := hide ⟨unhide OWN, below_drewN (unhide HB2) nq⟩
                  clear c0 c1 c2 OWN HB2
                  generalize wr.drewN nq = Z2w at *
                  go_wp2
                  go_roundw
                  case rel => exact ⟨t + 1, unhide HT, by go_num, by rw [unhide HS]; rfl, (unhide Z2).1, (unhide Z2).2⟩
                  case measure => have := unhide HT; simp [intOf]; omega
                · go_wp2
                  go_quiet (fail)
                  have Z2 : Hid ((wr.drewN nq).ownsRow q 3 1 (.slice (some ⟨g, 0, none⟩) L.length c) L.length (natV L) ∧ Below w4.heap.size w4 (wr.drewN nq)) := hide ⟨unhide OWN, below_drewN (unhide HB2) nq⟩
                  clear c0 c1 c2 OWN HB2
                  generalize wr.drewN nq = Z2w at *
                  go_wp2
                  go_roundw
                  case rel => exact ⟨t + 1, unhide HT, by go_num, by rw [unhide HS]; rfl, (unhide Z2).1, (unhide Z2).2⟩
                  case measure => have := unhide HT; simp [intOf]; omega
              · obtain rfl : t = L.length := by omega
                rw [unhide FE]
                have HB2 := hide hbl
                clear hlt ht hown hbl Z1
                go_wp2
                go_roundw
                case rel => exact ⟨i + 1, unhide HI, by go_num, unhide HB2⟩
                case measure => have := unhide HI; simp [intOf]; omega
    · obtain rfl : i = ps.length := by omega
      have BF := hide (bl_st hbl (unhide B4))
      clear hlt hi hbl
      go_wp2
      go_ret
      exact ⟨rfl, unhide BF⟩
end Go.Proofs.Ytggiijlgdpkkfaa
