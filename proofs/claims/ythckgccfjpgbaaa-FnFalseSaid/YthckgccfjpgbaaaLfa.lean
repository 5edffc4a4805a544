/- How many salts make a false positive: the law of it, walked. -/
import Derived.Test.YthckgccfjpgbaaaApi
import Derived.Test.YthckgccfjpgbaaaAt
import Derived.Test.YthckgccfjpgbaaaCodeOf
namespace Go.Proofs.Ythckgccfjpgbaaa
open Go.RowKit
set_option maxHeartbeats 4000000
set_option maxRecDepth 20000
theorem own_base {w : World} {base e sz g n c k : Nat} {xs : List Value} (h : w.ownsRow base e sz (.slice (some ⟨g, 0, none⟩) n c) k xs) : base ≤ g := by
  rcases h.2 with ⟨e, _⟩ | ⟨g', c', cur, e, h1, _⟩
  · simp at e
  · simp only [Value.slice.injEq, Option.some.injEq, Addr.mk.injEq] at e
    omega
theorem law_salts (w : World) (A : Option Addr) (n cap : Nat) (hn : n ≤ maxLen) (hA : codeAt w A n) (B : Option Addr) (m cb : Nat) (hm : m ≤ maxLen) (hB : codeAt w B m) :
    Calls Try.prog 4 #[.slice A n cap, .slice B m cb] w fun e w' => e = .returned (.bool true) ∧ Below w.heap.size w w' := by
  unfold maxLen at hn hm
  by_cases h1 : 1048576 < n
  · have q : (1048576 : Int) < (n : Int) := by omega
    have q2 : (n : Int) ≤ 9223372036854775807 := by omega
    clear h1 hn hA hB hm
    go_enter Try.func4, Try.ntmps4
    go_wp2
    go_ret
    exact ⟨rfl, Below.refl _ _⟩
  have q1 : (n : Int) ≤ 1048576 := by omega
  have t1 : decide ((1048576 : Int) < (n : Int)) = false := decide_eq_false (by omega)
  by_cases h2 : 1048576 < m
  · have q : (1048576 : Int) < (m : Int) := by omega
    have q2 : (m : Int) ≤ 9223372036854775807 := by omega
    clear h1 h2 hn hA hB hm
    go_enter Try.func4, Try.ntmps4
    go_wp2
    go_ret
    exact ⟨rfl, Below.refl _ _⟩
  have q2 : (m : Int) ≤ 1048576 := by omega
  have t2 : decide ((1048576 : Int) < (m : Int)) = false := decide_eq_false (by omega)
  have hat0 : Hid (∀ W, Below w.heap.size w W → Calls Try.prog 16 #[.slice B m cb, .int .i64 0, .int .i64 4] W fun e w' => ∃ v : Nat, e = .returned (.int .i64 v) ∧ v < 4 ∧ Below W.heap.size W w') := hide fun W hb => at_any W B m cb 0 4 (by omega) (by omega) (by omega) (by omega) (codeAt_below hB hb)
  have hat3 : Hid (∀ W, Below w.heap.size w W → Calls Try.prog 16 #[.slice B m cb, .int .i64 3, .int .i64 6] W fun e w' => ∃ v : Nat, e = .returned (.int .i64 v) ∧ v < 6 ∧ Below W.heap.size W w') := hide fun W hb => at_any W B m cb 3 6 (by omega) (by omega) (by omega) (by omega) (codeAt_below hB hb)
  have hatB : Hid (∀ (i N : Nat) W, i ≤ 1000 → 1 < N → N ≤ 65536 → Below w.heap.size w W → Calls Try.prog 16 #[.slice B m cb, .int .i64 i, .int .i64 N] W fun e w' => ∃ v : Nat, e = .returned (.int .i64 v) ∧ v < N ∧ Below W.heap.size W w') := hide fun i N W h1 h2 h3 hb => at_any W B m cb i N (by omega) h1 h2 h3 (codeAt_below hB hb)
  have hatA : Hid (∀ (i N : Nat) W, i ≤ 1000 → 1 < N → N ≤ 65536 → Below w.heap.size w W → Calls Try.prog 16 #[.slice A n cap, .int .i64 i, .int .i64 N] W fun e w' => ∃ v : Nat, e = .returned (.int .i64 v) ∧ v < N ∧ Below W.heap.size W w') := hide fun i N W h1 h2 h3 hb => at_any W A n cap i N (by omega) h1 h2 h3 (codeAt_below hA hb)
  have BL : Below w.heap.size w (w.alloc (.cells #[.int .i64 11, .int .i64 13, .int .i64 31, .int .i64 61] 3)) := bl_al (Below.refl _ _)
  have K0 := hide (unhide hat0 _ BL)
  have HL := hide (heap_alloc_new w (.cells #[.int .i64 11, .int .i64 13, .int .i64 31, .int .i64 61] 3))
  have HB := hide BL
  clear h1 h2 hn hm hA hB BL hat0
  go_enter Try.func4, Try.ntmps4
  go_wp2_with fail
  refine (unhide K0).mono ?_
  rintro e w1 ⟨v0, rfl, hv0, b1⟩
  obtain ⟨P, hc, hp⟩ := lit_cell ((b1.block w.heap.size (by simp)).trans (unhide HL)) hv0
  have B1 := hide (bl_st b1 (unhide HB))
  have HP := hide hp
  have p1 := hp.lo
  have p2 := hp.hi
  have K1 := hide (unhide hatB 1 P w1 (by omega) (by omega) (by omega) (unhide B1))
  have iv0 : (0 : Int) ≤ (v0 : Int) := by omega
  have iv1 : (v0 : Int) < 4 := by omega
  have ip0 : (0 : Int) ≤ (P : Int) := by omega
  have ip1 : (P : Int) ≤ 61 := by omega
  clear K0 HL HB b1 hp hv0
  go_wp2_with fail
  refine (unhide K1).mono ?_
  rintro e w2 ⟨v1, rfl, hv1, b2⟩
  have B2 := hide (bl_st b2 (unhide B1))
  obtain ⟨M, hM⟩ : ∃ M : Nat, (1 : Int) + (v1 : Int) = (M : Int) := ⟨1 + v1, by omega⟩
  have m1 : Hid (1 ≤ M) := hide (by omega)
  have m2 : Hid (M ≤ P) := hide (by omega)
  have K2 := hide (unhide hatB 2 P w2 (by omega) (by omega) (by omega) (unhide B2))
  have im0 : (0 : Int) ≤ (M : Int) := by omega
  have im1 : (M : Int) ≤ 61 := by omega
  have iv2 : (0 : Int) ≤ (v1 : Int) := by omega
  have iv3 : (v1 : Int) < 61 := by omega
  clear K1 b2 B1 hc iv0 iv1 hv1
  go_wp2_with fail
  clear hM iv2 iv3
  refine (unhide K2).mono ?_
  rintro e w3 ⟨o, rfl, ho, b3⟩
  have HO := hide ho
  have B3 := hide (bl_st b3 (unhide B2))
  clear K2 b3 B2 ho
  go_wp2
  go_loopw [8, 9] (fun u i wr => ∃ (j : Nat) (xs : List Int), j ≤ 6 ∧ xs.length ≤ j ∧ i = .int .i64 j ∧ (∃ g c, u = .slice (some ⟨g, 0, none⟩) xs.length c) ∧ wr.ownsRow w.heap.size 3 1 u xs.length (flatI xs) ∧ tagsIn P o xs ∧ Below w.heap.size w wr) (fun _ i _ => 6 - (intOf i).toNat)
  case atStart => exact ⟨0, [], by omega, by simp, rfl, ⟨_, _, rfl⟩, World.ownsRow_made w3 #[] 0 (unhide B3).size (Nat.zero_le _) rfl, tagsIn_nil _ _, bl_al (unhide B3)⟩
  case round =>
    obtain ⟨j, xs, hj, hxj, rfl, ⟨g, c, rfl⟩, hown, htg, hb⟩ := hrel
    have OWN := hide hown
    have TG := hide htg
    have HBr := hide hb
    have K3 := hide (unhide hat3 wr hb)
    have HXJ := hide hxj
    have j0 : (0 : Int) ≤ (j : Int) := by omega
    have j1 : (j : Int) ≤ 6 := by omega
    have x0 : (0 : Int) ≤ (xs.length : Int) := by omega
    have x1 : (xs.length : Int) ≤ 6 := by omega
    clear hown htg hb hxj
    go_wp2_with fail
    refine (unhide K3).mono ?_
    rintro e w4 ⟨v3, rfl, hv3, b4⟩
    have O4 := hide (ownsRow_below (unhide OWN) b4)
    have B4 := hide (bl_st b4 (unhide HBr))
    clear K3 b4 OWN HBr
    by_cases hlt : (j : Int) < (v3 : Int)
    · have K4 := hide (unhide hatA j P w4 (by omega) (by omega) (by omega) (unhide B4))
      have HJ := hide (show j + 1 ≤ 6 by omega)
      have j2 : (j : Int) < 6 := by omega
      go_wp2_with fail
      refine (unhide K4).mono ?_
      rintro e w5 ⟨t, rfl, ht, b5⟩
      have O5 := hide (ownsRow_below (unhide O4) b5)
      have B5 := hide (bl_st b5 (unhide B4))
      have HT := hide ht
      clear K4 b5 O4 B4 hlt hv3 hj ht
      by_cases he : (t : Int) = (o : Int)
      · go_wp2
        go_roundw
        case rel => exact ⟨j + 1, xs, unhide HJ, by have := unhide HXJ; omega, by go_num, ⟨_, _, rfl⟩, unhide O5, unhide TG, unhide B5⟩
        case measure => have := unhide HJ; simp [intOf]; omega
      · have BA : Below w5.heap.size w5 (w5.alloc (.cells #[.int .i64 (t : Int)] 3)) := bl_al (Below.refl _ _)
        have O6 := hide (ownsRow_below (unhide O5) BA)
        have B6 := hide (bl_st BA (unhide B5))
        have B6s : Hid (w.heap.size ≤ (w5.alloc (.cells #[.int .i64 (t : Int)] 3)).heap.size) := hide (unhide B6).size
        have V6 := hide (one_int w5 (t : Int))
        have gb : Hid (w.heap.size ≤ g) := hide (own_base (unhide O5))
        clear BA O5 B5
        go_wp2_with (at_builtin; refine wpList_append_ints _ rfl _ _ rfl w.heap.size xs.length (.slice (some ⟨g, 0, none⟩) xs.length c) xs rfl (unhide O6) ⟨_, _, rfl⟩ (.slice (some ⟨w5.heap.size, 0, none⟩) 1 1) [(t : Int)] rfl (unhide V6) (by simp; omega) (unhide B6s) ?_; intro g1 c1 w7 own1 gr1; have O7 := hide own1; have B7 := hide (Below.grown (unhide B6) gr1 (unhide B6s) (by intro k hk; cases hk; exact unhide gb)); clear own1 gr1)
        have e2 : xs.length + 1 = (xs ++ [(t : Int)]).length := by simp
        go_roundw
        case rel => exact ⟨j + 1, xs ++ [(t : Int)], unhide HJ, by have := unhide HXJ; simp; omega, by go_num, ⟨g1, c1, by rw [e2]⟩, by rw [← e2]; exact unhide O7, tagsIn_snoc (unhide TG) (unhide HT) (by omega), unhide B7⟩
        case measure => have := unhide HJ; simp [intOf]; omega
    · have V4 := hide (own_ints (unhide O4) ⟨_, _, rfl⟩).ints
      have hp := unhide HP
      have hl6 : xs.length ≤ 6 := by omega
      have KI := hide (false24 P M _ xs o w4 (unhide V4) (by omega))
      have KS := hide (fun W hV => false25 P M (.slice (some ⟨g, 0, none⟩) xs.length c) xs o W hV (by omega))
      rw [fsR_tags hp.p hp.hi (unhide m1) (unhide m2) (unhide HO) hl6 (unhide TG)] at KI KS
      have KO := hide (fun W v hV => false24 P M v (xs ++ [(o : Int)]) o W hV (by simp; omega))
      rw [fsR_other hp.p hp.hi (unhide m1) (unhide m2) (unhide HO) hl6 (unhide TG)] at KO
      have KP := hide (fun W => prime26 P W)
      rw [hp.p] at KP
      have KQ := hide (fun W => prime26 (2 * (P : Int)) W)
      rw [hp.q] at KQ
      obtain ⟨fb, fb2⟩ := fs_bound hp (unhide m1) (unhide m2) (unhide HO) (unhide TG)
      have fb0 : (0 : Int) ≤ (fsN P M xs o : Int) := by omega
      generalize fsN P M xs o = N at *
      have O4' := hide (fun W (hb : Below w4.heap.size w4 W) => (unhide V4).below hb)
      have W1 : (0 : Int) ≤ (N : Int) * (M : Int) := Int.mul_nonneg fb0 im0
      have W2 : (N : Int) * (M : Int) ≤ 3721 * 61 := Int.mul_le_mul fb2 im1 im0 (by omega)
      have W3 : (0 : Int) ≤ 2 * (xs.length : Int) * (P : Int) := Int.mul_nonneg (by omega) ip0
      have W4 : 2 * (xs.length : Int) * (P : Int) ≤ 12 * 61 := Int.mul_le_mul (by omega) ip1 ip0 (by omega)
      have W5 : (0 : Int) ≤ 2 * (xs.length : Int) * (P : Int) * (P : Int) := Int.mul_nonneg W3 ip0
      have W6 : 2 * (xs.length : Int) * (P : Int) * (P : Int) ≤ 12 * 61 * 61 := Int.mul_le_mul W4 ip1 ip0 (by omega)
      clear hp hl6 hat3 hatA hatB O4 hj hv3 TG HXJ HP m1 m2 HO
      go_wp2_with fail
      refine (unhide KI).mono ?_
      rintro e w5 ⟨rfl, b5⟩
      have B5 := hide (bl_st b5 (unhide B4))
      have V5 := hide ((unhide V4).below b5)
      clear b5 B4 V4 KI
      go_wp2_with fail
      refine (unhide KS w5 (unhide V5)).mono ?_
      rintro e w5' ⟨rfl, hw5⟩
      have hw5' := hw5.symm
      subst hw5'
      have BE : Below w5.heap.size w5 (w5.alloc (.cells #[] 3)) := bl_al (Below.refl _ _)
      have V6 := hide ((unhide V5).below BE)
      have B6 := hide (bl_st BE (unhide B5))
      have S5 := hide (unhide B5).size
      clear KS V5 B5 BE hw5
      go_wp2_with (at_builtin; first | (refine wpList_append_ints _ rfl _ _ rfl w5.heap.size 0 (.slice (some ⟨w5.heap.size, 0, none⟩) 0 0) [] rfl (World.ownsRow_made w5 #[] 0 (Nat.le_refl _) (Nat.zero_le _) rfl) ⟨_, _, rfl⟩ (.slice (some ⟨g, 0, none⟩) xs.length c) xs rfl (unhide V6) (by omega) (by simp) ?_; intro g1 c1 w7 own1 gr1; rw [Nat.zero_add, List.nil_append] at own1; have b7 := Below.grown (unhide B6) gr1 (unhide B6).size (by intro k hk; cases hk; exact unhide S5); have BA : Below w7.heap.size w7 (w7.alloc (.cells #[.int .i64 (o : Int)] 3)) := bl_al (Below.refl _ _); have O8 := hide (ownsRow_below own1 BA); have B8 := hide (bl_st BA b7); have V8 := hide (one_int w7 (o : Int)); have S8 : Hid (w5.heap.size ≤ (w7.alloc (.cells #[.int .i64 (o : Int)] 3)).heap.size) := hide (Nat.le_trans (by have := gr1.size; simp at this; omega) BA.size); have G8 : Hid (w.heap.size ≤ g1) := hide (Nat.le_trans (unhide S5) (own_base own1)); clear own1 gr1 b7 BA V6 B6) | (refine wpList_append_ints _ rfl _ _ rfl w5.heap.size xs.length (.slice (some ⟨g1, 0, none⟩) xs.length c1) xs rfl (unhide O8) ⟨_, _, rfl⟩ (.slice (some ⟨w7.heap.size, 0, none⟩) 1 1) [(o : Int)] rfl (unhide V8) (by simp; omega) (unhide S8) ?_; intro g2 c2 w9 own2 gr2; have V9 : Hid (intsV w9 (.slice (some ⟨g2, 0, none⟩) (xs.length + 1) c2) (xs ++ [(o : Int)])) := hide (own_ints own2 ⟨_, _, rfl⟩).ints; have B9 := hide (Below.grown (unhide B8) gr2 (unhide B8).size (by intro k hk; cases hk; exact unhide G8)); clear own2 gr2 O8 B8 V8 S8 G8))
      refine (unhide KO w9 _ (unhide V9)).mono ?_
      rintro e w10 ⟨rfl, b10⟩
      have B10 := hide (bl_st b10 (unhide B9))
      clear KO b10 V9 B9
      go_wp2_with fail
      refine (unhide KP w10).mono ?_
      rintro e w11 ⟨rfl, hw11⟩
      have hw11' := hw11.symm
      subst hw11'
      go_wp2_with fail
      refine (unhide KQ w10).mono ?_
      rintro e w12 ⟨rfl, hw12⟩
      have hw12' := hw12.symm
      subst hw12'
      go_wp2
      go_ret
      exact ⟨rfl, unhide B10⟩
end Go.Proofs.Ythckgccfjpgbaaa
