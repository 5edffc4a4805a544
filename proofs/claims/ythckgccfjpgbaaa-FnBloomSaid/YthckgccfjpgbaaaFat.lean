/- FalseSalts: the specification's side; the law. -/
import Derived.Test.YthckgccfjpgbaaaFas
namespace Go.Proofs.Ythckgccfjpgbaaa
open Go.RowKit
set_option maxHeartbeats 4000000
set_option maxRecDepth 20000
theorem bit64 (b : Bool) (w : World) : Calls Try.prog 64 #[.bool b] w fun e w' => e = .returned (.int .i64 (if b then 1 else 0)) ∧ w' = w := by
  cases b
  all_goals
    go_enter Try.func64, Try.ntmps64
    go_wp2
    go_ret
    exact ⟨rfl, rfl⟩
def hitTo (p wd : Int) (ts : List Int) (o : Int) (a b k : Nat) : Bool := (List.range k).any fun i => decide (plc p wd ((a : Int), (b : Int)) (ts.getD i 0) = plc p wd ((a : Int), (b : Int)) o)
theorem hitTo_step (p wd : Int) (ts : List Int) (o : Int) (a b k : Nat) : hitTo p wd ts o a b (k + 1) = (hitTo p wd ts o a b k || decide (plc p wd ((a : Int), (b : Int)) (ts.getD k 0) = plc p wd ((a : Int), (b : Int)) o)) := by
  unfold hitTo
  rw [List.range_succ, List.any_append]
  simp
/-- a bit, as the walk reckons it -/
theorem plc_walk {p wd : Int} {a b : Nat} {t : Int} (p2 : 2 ≤ p) (p61 : p ≤ 61) (ha : (a : Int) < p) (hb : (b : Int) < p) (ht : inP p t = true) :
    ∃ m y r : Int, (a : Int) * t = m ∧ m + (b : Int) = y ∧ 0 ≤ m ∧ m ≤ 258064 ∧ 0 ≤ y ∧ y ≤ 258572 ∧ Int.tmod y p = r ∧ 0 ≤ r ∧ Int.tmod r wd = plc p wd ((a : Int), (b : Int)) t := by
  have hA : inP p (a : Int) = true := by unfold inP; simp; omega
  obtain ⟨m0, m1⟩ := mul_in2 hA ht (by omega)
  refine ⟨_, _, _, rfl, rfl, m0, m1, by omega, by omega, rfl, ?_, ?_⟩
  · rw [Int.tmod_eq_emod_of_nonneg (by omega)]; exact Int.emod_nonneg _ (by omega)
  · rw [Int.tmod_eq_emod_of_nonneg (a := (a : Int) * t + (b : Int)) (by omega), Int.tmod_eq_emod_of_nonneg (Int.emod_nonneg _ (by omega))]
    rfl
theorem false25 (p wd : Int) (v : Value) (ts : List Int) (o : Int) (w : World) (hv : intsV w v ts) (hn : ts.length ≤ 2097152) :
    Calls Try.prog 25 #[.int .i64 p, .int .i64 wd, v, .int .i64 o] w fun e w' => e = .returned (pV (fsR p wd ts o)) ∧ w' = w := by
  have K2 := hide (shape62 p wd w)
  have K3 := hide (fun n => in19 n 0 (p - 1) w)
  have HV := hide hv
  obtain ⟨A, ca, rfl, hx⟩ := hv
  clear hx
  have n0 : (0 : Int) ≤ (ts.length : Int) := by omega
  have n1 : (ts.length : Int) ≤ 2097152 := by omega
  by_cases h4 : 4096 < ts.length
  · have HE : Hid (fsR p wd ts o = (0, 2)) := hide (fsR_code (by unfold fsC; rw [if_pos h4]) (by omega))
    have q : (4096 : Int) < (ts.length : Int) := by omega
    clear h4 hn
    go_enter Try.func25, Try.ntmps25
    go_wp2
    go_ret2
    exact ⟨by rw [unhide HE]; rfl, rfl⟩
  have q4 : (ts.length : Int) ≤ 4096 := by omega
  by_cases hok : (shapeB p wd && decide (p ≤ 61) && decide (ts.length ≤ 8) && inP p o) = true
  rotate_left
  · have HE : Hid (fsR p wd ts o = (0, 4)) := hide (fsR_code (by unfold fsC; rw [if_neg h4, if_neg hok]) (by omega))
    have HIN := hide (fun h => shapeB_in (p := p) (w := wd) h)
    have K4 := hide (unhide K3 o)
    rw [inP_in] at K4
    clear h4 hn K3
    generalize shapeB p wd = b1 at *
    generalize inP p o = b4 at *
    cases b1
    · go_enter Try.func25, Try.ntmps25
      go_wp2_with fail
      refine (unhide K2).mono ?_
      rintro e w3 ⟨rfl, hw⟩
      have hw' := hw.symm
      subst hw'
      clear hw
      go_wp2
      go_ret2
      exact ⟨by rw [unhide HE]; rfl, rfl⟩
    obtain ⟨p2, p9, _, _, _⟩ := unhide HIN rfl
    by_cases hp : p ≤ 61
    rotate_left
    · have hp' : 61 < p := by omega
      clear hp hok
      go_enter Try.func25, Try.ntmps25
      go_wp2_with fail
      refine (unhide K2).mono ?_
      rintro e w3 ⟨rfl, hw⟩
      have hw' := hw.symm
      subst hw'
      clear hw
      go_wp2
      go_ret2
      exact ⟨by rw [unhide HE]; rfl, rfl⟩
    by_cases hl : ts.length ≤ 8
    rotate_left
    · have hl' : (8 : Int) < (ts.length : Int) := by omega
      clear hl hok
      go_enter Try.func25, Try.ntmps25
      go_wp2_with fail
      refine (unhide K2).mono ?_
      rintro e w3 ⟨rfl, hw⟩
      have hw' := hw.symm
      subst hw'
      clear hw
      go_wp2
      go_ret2
      exact ⟨by rw [unhide HE]; rfl, rfl⟩
    have hl' : (ts.length : Int) ≤ 8 := by omega
    cases b4
    · clear hok hl
      go_enter Try.func25, Try.ntmps25
      go_wp2_with fail
      refine (unhide K2).mono ?_
      rintro e w3 ⟨rfl, hw⟩
      have hw' := hw.symm
      subst hw'
      clear hw
      go_wp2_with fail
      refine (unhide K4).mono ?_
      rintro e w3 ⟨rfl, hw⟩
      have hw' := hw.symm
      subst hw'
      clear hw
      go_wp2
      go_ret2
      exact ⟨by rw [unhide HE]; rfl, rfl⟩
    · exact absurd (by simp [hp, hl]) hok
  have HF : Hid (fsC p wd ts o = tC p o ts) := hide (by unfold fsC; rw [if_neg h4, if_pos hok])
  simp only [Bool.and_eq_true, decide_eq_true_eq] at hok
  obtain ⟨⟨⟨h1, h2⟩, h3⟩, h5⟩ := hok
  obtain ⟨p2, p9, w1, wp, w64⟩ := shapeB_in h1
  have q8 : (ts.length : Int) ≤ 8 := by omega
  rw [h1] at K2
  have K4 := hide (unhide K3 o)
  rw [inP_in, h5] at K4
  have HO := hide h5
  have HGO : Hid (tC p o ts = 0 → fsR p wd ts o = ((fsN p wd ts o : Int), 0) ∧ ∀ i, i < ts.length → inP p (ts.getD i 0) = true) := hide fun h => ⟨fsR_ok (by rw [unhide HF]; exact h), fun i hi => (tC_in h i hi).1⟩
  have HBD : Hid (∀ c, tC p o ts = c → c ≠ 0 → fsR p wd ts o = (0, c)) := hide fun c h hc => fsR_code (by rw [unhide HF]; exact h) hc
  obtain ⟨P, hP⟩ : ∃ P : Nat, p = (P : Int) := ⟨p.toNat, by omega⟩
  have P61 : P ≤ 61 := by omega
  have HN : Hid (fsN p wd ts o = tot (hitB p wd ts o) P P) := hide (by unfold fsN; rw [hP, Int.toNat_natCast])
  have HTI := hide (fun a b ha hb => tot_in (hitB p wd ts o) (P := P) (a := a) (b := b) P61 ha hb)
  have HHT : Hid (∀ a b, hitB p wd ts o a b = hitTo p wd ts o a b ts.length) := hide fun a b => rfl
  have ne : ¬ p = 0 := by omega
  have ne2 : ¬ wd = 0 := by omega
  have HPW := hide (fun (a b : Nat) t (ha : (a : Int) < p) (hb : (b : Int) < p) (ht : inP p t = true) => plc_walk (wd := wd) (a := a) (b := b) p2 h2 ha hb ht)
  have HSTP := hide (fun a b k => hitTo_step p wd ts o a b k)
  have HZ0 : Hid (∀ a b, hitTo p wd ts o a b 0 = false) := hide fun a b => rfl
  have HPE := hide hP
  clear h4 hn h1 h3 h5 HF P61 hP
  generalize hitB p wd ts o = f at *
  generalize hitTo p wd ts o = ft at *
  generalize fsR p wd ts o = rr at *
  generalize fsN p wd ts o = nn at *
  go_enter Try.func25, Try.ntmps25
  go_wp2_with fail
  refine (unhide K2).mono ?_
  rintro e w3 ⟨rfl, hw⟩
  have hw' := hw.symm
  subst hw'
  clear hw
  go_wp2_with fail
  refine (unhide K4).mono ?_
  rintro e w3 ⟨rfl, hw⟩
  have hw' := hw.symm
  subst hw'
  clear hw
  clear K2 K4
  go_wp2
  go_loopw [10] (fun i wr => ∃ j : Nat, j ≤ ts.length ∧ i = .int .i64 j ∧ tC p o (ts.drop j) = tC p o ts ∧ wr = w) (fun i _ => ts.length - (intOf i).toNat)
  case atStart => exact ⟨0, by omega, rfl, rfl, rfl⟩
  case round =>
    obtain ⟨j, hj, rfl, hu, hwr⟩ := hrel
    have hwr' := hwr.symm
    subst hwr'
    clear hwr
    by_cases hlt : j < ts.length
    · obtain ⟨b5, off, hA, _, hcell⟩ := (unhide HV).at hlt
      subst hA
      have q1 : (j : Int) < (ts.length : Int) := by omega
      have q0 : (0 : Int) ≤ (j : Int) := by omega
      have HJ := hide hlt
      rw [tC_drop hlt] at hu
      have K6 := hide (unhide K3 (ts.getD j 0))
      rw [inP_in] at K6
      have HG1 : Hid (∀ c, (if inP p (ts.getD j 0) then (if ts.getD j 0 = o then 9 else tC p o (ts.drop (j + 1))) else 4) = c → c ≠ 0 → rr = (0, c)) := hide fun c h hc => unhide HBD c (by rw [← hu]; exact h) hc
      clear hlt hj HGO
      generalize ts.getD j 0 = t at *
      generalize inP p t = bt' at *
      cases bt'
      · have HE := hide (unhide HG1 4 rfl (by omega))
        clear hu HG1
        go_wp2_with fail
        refine (unhide K6).mono ?_
        rintro e w3 ⟨rfl, hw⟩
        have hw' := hw.symm
        subst hw'
        clear hw
        go_wp2
        go_ret2
        exact ⟨by rw [unhide HE]; rfl, rfl⟩
      · by_cases hto : t = o
        · have HE := hide (unhide HG1 9 (by rw [if_pos rfl, if_pos hto]) (by omega))
          subst hto
          clear hu HG1
          go_wp2_with fail
          refine (unhide K6).mono ?_
          rintro e w3 ⟨rfl, hw⟩
          have hw' := hw.symm
          subst hw'
          clear hw
          go_wp2
          go_ret2
          exact ⟨by rw [unhide HE]; rfl, rfl⟩
        · have HF : Hid (tC p o (ts.drop (j + 1)) = tC p o ts) := hide (by rw [← hu, if_pos rfl, if_neg hto])
          have hto2 : (t == o) = false := by simpa using hto
          clear hu hto HG1
          go_wp2_with fail
          refine (unhide K6).mono ?_
          rintro e w3 ⟨rfl, hw⟩
          have hw' := hw.symm
          subst hw'
          clear hw
          go_wp2
          go_roundw
          case rel => exact ⟨j + 1, unhide HJ, by go_num, unhide HF, by first | rfl | trivial⟩
          case measure => have := unhide HJ; simp [intOf]; omega
    · obtain rfl : j = ts.length := by omega
      have hF0 : tC p o ts = 0 := by rw [← hu, List.drop_length]; rfl
      obtain ⟨hE, hT⟩ := unhide HGO hF0
      have HE := hide hE
      have HT := hide hT
      clear hlt hu HGO HBD hF0 hE hT K3
      have hP := unhide HPE
      clear HPE
      subst hP
      go_wp2
      go_loopw [11, 12] (fun cn i wr => ∃ a : Nat, a ≤ P ∧ i = .int .i64 a ∧ cn = .int .i64 ((tot f P a : Nat) : Int) ∧ wr = w) (fun _ i _ => P - (intOf i).toNat)
      case atStart => first | exact ⟨0, by omega, rfl, rfl, rfl⟩ | ((repeat apply Exists.intro); exact ⟨⟨0, by omega, rfl, rfl, rfl⟩, rfl⟩)
      case round =>
        obtain ⟨a, ha, rfl, rfl, hwr⟩ := hrel
        have hwr' := hwr.symm
        subst hwr'
        clear hwr
        by_cases hlt : a < P
        · have qa1 : (a : Int) < (P : Int) := by omega
          have qa0 : (0 : Int) ≤ (a : Int) := by omega
          have HA := hide hlt
          have HT2 : Hid (tot f P (a + 1) = tot f P a + cnt (f a) P) := hide rfl
          obtain ⟨t2, ht2⟩ : ∃ t2, t2 = tot f P (a + 1) := ⟨_, rfl⟩
          rw [← ht2] at HT2
          have HTN0 := hide ht2
          clear ht2
          clear hlt ha
          have HTA := hide (fun b hb => unhide HTI a b (unhide HA) hb)
          generalize tot f P a = ta at *
          go_wp2
          go_loopw [11, 13] (fun cn i wr => ∃ b : Nat, b ≤ P ∧ i = .int .i64 b ∧ cn = .int .i64 ((ta + cnt (f a) b : Nat) : Int) ∧ wr = w) (fun _ i _ => P - (intOf i).toNat)
          case atStart => first | exact ⟨0, by omega, rfl, rfl, rfl⟩ | ((repeat apply Exists.intro); exact ⟨⟨0, by omega, rfl, rfl, rfl⟩, rfl⟩)
          case round =>
            obtain ⟨b, hb, rfl, rfl, hwr⟩ := hrel
            have hwr' := hwr.symm
            subst hwr'
            clear hwr
            by_cases hlb : b < P
            · have qb1 : (b : Int) < (P : Int) := by omega
              have qb0 : (0 : Int) ≤ (b : Int) := by omega
              have m1 : ((ta + cnt (f a) b : Nat) : Int) ≤ 3721 := by have := unhide HTA b (by omega); omega
              have m0 : (0 : Int) ≤ ((ta + cnt (f a) b : Nat) : Int) := Int.natCast_nonneg _
              have HS' : Hid (ta + cnt (f a) (b + 1) = ta + cnt (f a) b + (if ft a b ts.length then 1 else 0)) := hide (by rw [← unhide HHT a b]; exact (Nat.add_assoc _ _ _).symm)
              have HLB := hide hlb
              obtain ⟨mm, y, r, e1, e2, y1, y2, y3, y4, e3, y5, e4⟩ := unhide HPW a b o qa1 qb1 (unhide HO)
              have HT3 := hide (fun k hk => unhide HPW a b (ts.getD k 0) qa1 qb1 (unhide HT k hk))
              have HST2 := hide (unhide HSTP a b)
              have HZ1 := hide (unhide HZ0 a b)
              clear hlb hb
              generalize ta + cnt (f a) b = m at *
              generalize ft a b = g at *
              generalize plc (P : Int) wd ((a : Int), (b : Int)) o = mine at *
              go_wp2
              clear e1 e2 y1 y2 y3 y4 e3 y5 e4
              go_loopw [15, 16] (fun h i wr => ∃ k : Nat, k ≤ ts.length ∧ i = .int .i64 k ∧ h = .bool (g k) ∧ wr = w) (fun _ i _ => ts.length - (intOf i).toNat)
              case atStart => first | exact ⟨0, by omega, rfl, by rw [unhide HZ1], rfl⟩ | ((repeat apply Exists.intro); exact ⟨⟨0, by omega, rfl, by rw [unhide HZ1], rfl⟩, rfl⟩)
              case round =>
                obtain ⟨k, hk, rfl, rfl, hwr⟩ := hrel
                have hwr' := hwr.symm
                subst hwr'
                clear hwr
                by_cases hlk : k < ts.length
                · obtain ⟨b5, off, hA, _, hcell⟩ := (unhide HV).at hlk
                  subst hA
                  have qk1 : (k : Int) < (ts.length : Int) := by omega
                  have qk0 : (0 : Int) ≤ (k : Int) := by omega
                  obtain ⟨mm, y, r, e1, e2, y1, y2, y3, y4, e3, y5, e4⟩ := unhide HT3 k hlk
                  have HSK := hide (unhide HST2 k)
                  have HLK := hide hlk
                  clear hlk hk
                  generalize ts.getD k 0 = tk at *
                  generalize plc (P : Int) wd ((a : Int), (b : Int)) tk = z at *
                  obtain ⟨g2, hg3⟩ : ∃ g2, g (k + 1) = g2 := ⟨_, rfl⟩
                  have HG3 := hide hg3
                  rw [hg3] at HSK
                  clear hg3
                  generalize g k = gk at *
                  cases gk
                  · by_cases hz : z = mine
                    · have hg2 : g2 = true := by rw [unhide HSK, hz]; simp
                      subst hg2
                      subst hz
                      go_wp2
                      go_roundw
                      case rel => first | exact ⟨k + 1, unhide HLK, by go_num, by rw [unhide HG3], by first | rfl | trivial⟩ | ((repeat apply Exists.intro); exact ⟨⟨k + 1, unhide HLK, by go_num, by rw [unhide HG3], by first | rfl | trivial⟩, rfl⟩)
                      case measure => have := unhide HLK; simp [intOf]; omega
                    · have hg2 : g2 = false := by rw [unhide HSK]; simp [hz]
                      have hz2 : (z == mine) = false := by simpa using hz
                      subst hg2
                      clear hz
                      go_wp2
                      go_roundw
                      case rel => first | exact ⟨k + 1, unhide HLK, by go_num, by rw [unhide HG3], by first | rfl | trivial⟩ | ((repeat apply Exists.intro); exact ⟨⟨k + 1, unhide HLK, by go_num, by rw [unhide HG3], by first | rfl | trivial⟩, rfl⟩)
                      case measure => have := unhide HLK; simp [intOf]; omega
                  · have hg2 : g2 = true := by rw [unhide HSK]; simp
                    subst hg2
                    clear e1 e2 e3 e4
                    go_wp2
                    go_roundw
                    case rel => first | exact ⟨k + 1, unhide HLK, by go_num, by rw [unhide HG3], by first | rfl | trivial⟩ | ((repeat apply Exists.intro); exact ⟨⟨k + 1, unhide HLK, by go_num, by rw [unhide HG3], by first | rfl | trivial⟩, rfl⟩)
                    case measure => have := unhide HLK; simp [intOf]; omega
                · obtain rfl : k = ts.length := by omega
                  have K9 := hide (bit64 (g ts.length) w)
                  clear hlk
                  generalize g ts.length = gl at *
                  have g01 : (0 : Int) ≤ (if gl then 1 else 0) ∧ (if gl then (1 : Int) else 0) ≤ 1 := by cases gl <;> decide
                  have HSI : Hid (((ta + cnt (f a) (b + 1) : Nat) : Int) = (m : Int) + (if gl then (1 : Int) else 0)) := hide (by rw [unhide HS']; cases gl <;> simp)
                  obtain ⟨g0', g1'⟩ := g01
                  generalize (if gl then (1 : Int) else 0) = gi at *
                  go_wp2_with fail
                  refine (unhide K9).mono ?_
                  rintro e w9 ⟨rfl, hw⟩
                  have hw' := hw.symm
                  subst hw'
                  clear hw
                  go_wp2
                  go_roundw
                  case rel => first | exact ⟨b + 1, unhide HLB, by go_num, by rw [unhide HSI], by first | rfl | trivial⟩ | ((repeat apply Exists.intro); exact ⟨⟨b + 1, unhide HLB, by go_num, by rw [unhide HSI], by first | rfl | trivial⟩, rfl⟩)
                  case measure => have := unhide HLB; simp [intOf]; omega
            · obtain rfl : b = P := by omega
              clear hlb
              rw [← unhide HT2]
              go_wp2
              go_roundw
              case rel => first | exact ⟨a + 1, unhide HA, by go_num, by rw [← unhide HTN0], by first | rfl | trivial⟩ | ((repeat apply Exists.intro); exact ⟨⟨a + 1, unhide HA, by go_num, by rw [← unhide HTN0], by first | rfl | trivial⟩, rfl⟩)
              case measure => have := unhide HA; simp [intOf]; omega
        · obtain rfl : a = P := by omega
          clear hlt
          rw [← unhide HN]
          go_wp2
          go_ret2
          exact ⟨by rw [unhide HE]; rfl, rfl⟩
theorem law_false (w : World) (p wd : Int) (v : Value) (xs : List Int) (hv : intsV w v xs) (hl : xs.length ≤ maxLen) (o : Int) :
    Calls Try.prog 12 #[.int .i64 p, .int .i64 wd, v, .int .i64 o] w fun e w' => e = .returned (.bool true) ∧ Below w.heap.size w w' := by
  have HV := hide hv
  obtain ⟨A, cap, rfl, hc⟩ := hv
  clear hc
  unfold maxLen at hl
  have n0 : (0 : Int) ≤ (xs.length : Int) := by omega
  have n1 : (xs.length : Int) ≤ 9223372036854775807 := by omega
  by_cases h1 : 1048576 < xs.length
  · have q : (1048576 : Int) < (xs.length : Int) := by omega
    clear h1 hl HV
    go_enter Try.func12, Try.ntmps12
    go_wp2
    go_ret
    exact ⟨rfl, Below.refl _ _⟩
  have q : (xs.length : Int) ≤ 1048576 := by omega
  have HN := hide (show xs.length ≤ 1048576 by omega)
  clear h1 hl
  have HTO : Hid (∀ u W, intsV W u xs → Calls Try.prog 41 #[u] W fun e w' => ∃ r, e = .returned r ∧ ownI W.heap.size w'.heap.size w' r xs ∧ Below W.heap.size W w') := hide fun u W hu => to6 u xs W hu (by have := unhide HN; omega)
  have HSP : Hid (∀ u W, intsV W u xs → Calls Try.prog 25 #[.int .i64 p, .int .i64 wd, u, .int .i64 o] W fun e w' => e = .returned (pV (fsR p wd xs o)) ∧ w' = W) := hide fun u W hu => false25 p wd u xs o W hu (by have := unhide HN; omega)
  have HIM : Hid (∀ u W, intsV W u xs → Calls Try.prog 24 #[.int .i64 p, .int .i64 wd, u, .int .i64 o] W fun e w' => e = .returned (pV (fsR p wd xs o)) ∧ Below W.heap.size W w') := hide fun u W hu => false24 p wd u xs o W hu (by have := unhide HN; omega)
  generalize fsR p wd xs o = r at *
  obtain ⟨x, y⟩ := r
  go_enter Try.func12, Try.ntmps12
  go_wp2_with fail
  refine (unhide HTO _ w (unhide HV)).mono ?_
  rintro e w2 ⟨u1, rfl, o2, b2⟩
  have B2 := hide b2
  have U2 := hide o2.ints
  clear o2 b2
  go_wp2_with fail
  refine (unhide HSP _ w2 (unhide U2)).mono ?_
  rintro e w3 ⟨rfl, hw3⟩
  have hw3' := hw3.symm
  subst hw3'
  clear U2 hw3
  go_wp2_with fail
  refine (unhide HTO _ w2 ((unhide HV).below (unhide B2))).mono ?_
  rintro e w4 ⟨u, rfl, o4, b4⟩
  have B4 := hide (bl_st b4 (unhide B2))
  have U4 := hide o4.ints
  clear o4 b4 B2
  go_wp2_with fail
  refine (unhide HIM _ w4 (unhide U4)).mono ?_
  rintro e w5 ⟨rfl, b5⟩
  have B5 := hide (bl_st b5 (unhide B4))
  have U5 := hide ((unhide U4).below b5)
  clear b5 B4 U4
  go_wp2_with fail
  refine (unhide HTO _ w5 ((unhide HV).below (unhide B5))).mono ?_
  rintro e w6 ⟨u6, rfl, o6, b6⟩
  have B6 := hide (bl_st b6 (unhide B5))
  have U6 := hide ((unhide U5).below b6)
  have V6 := hide o6.ints
  clear o6 b6 B5 U5
  go_wp2_with fail
  refine (eq8 _ _ xs w6 (unhide U6) (unhide V6) (by have := unhide HN; omega)).mono ?_
  rintro e w7 ⟨rfl, k, rfl⟩
  have B7 := hide (below_drewN (unhide B6) k)
  clear B6
  go_wp2
  go_ret
  exact ⟨rfl, unhide B7⟩
end Go.Proofs.Ythckgccfjpgbaaa
