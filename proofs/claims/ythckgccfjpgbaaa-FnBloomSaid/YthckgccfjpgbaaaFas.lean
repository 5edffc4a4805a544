/- FalseSalts, both sides; the law. -/
import Derived.Test.YthckgccfjpgbaaaFal
namespace Go.Proofs.Ythckgccfjpgbaaa
open Go.RowKit
set_option maxHeartbeats 4000000
set_option maxRecDepth 20000
theorem fsR_code {p wd : Int} {ts : List Int} {o c : Int} (h : fsC p wd ts o = c) (hc : c ≠ 0) : fsR p wd ts o = (0, c) := by unfold fsR; rw [h, if_neg hc]
theorem fsR_ok {p wd : Int} {ts : List Int} {o : Int} (h : fsC p wd ts o = 0) : fsR p wd ts o = ((fsN p wd ts o : Int), 0) := by unfold fsR; rw [if_pos h]
theorem tot_in (f : Nat → Nat → Bool) {P a b : Nat} (hP : P ≤ 61) (ha : a < P) (hb : b ≤ P) : tot f P a + cnt (f a) b ≤ 3721 := by
  have h1 := tot_le f P a
  have h2 := cnt_le (f a) b
  have h3 : (a + 1) * P = a * P + P := by rw [Nat.add_mul]; omega
  have h4 : (a + 1) * P ≤ 61 * 61 := Nat.mul_le_mul (by omega) hP
  omega
theorem tC_code {p o : Int} : ∀ ts : List Int, tC p o ts = 0 ∨ tC p o ts = 4 ∨ tC p o ts = 9
  | [] => .inl rfl
  | t :: ts => by
    unfold tC
    split
    · split
      · exact .inr (.inr rfl)
      · exact tC_code ts
    · exact .inr (.inl rfl)
theorem false24 (p wd : Int) (v : Value) (ts : List Int) (o : Int) (w : World) (hv : intsV w v ts) (hn : ts.length ≤ 2097152) :
    Calls Try.prog 24 #[.int .i64 p, .int .i64 wd, v, .int .i64 o] w fun e w' => e = .returned (pV (fsR p wd ts o)) ∧ Below w.heap.size w w' := by
  have B0 : Below w.heap.size w (w.alloc (.cells #[.int .i64 p, .int .i64 wd, .slice none 0 0, .slice none 0 0] 26)) := bl_al (Below.refl _ _)
  have C := bc_new w p wd (.slice none 0 0) (.slice none 0 0) 26
  have K1 := hide (code60 w.heap.size p wd _ _ v ts o _ C (hv.below B0) hn)
  have HC := hide C
  have HB := hide B0
  have HV := hide (hv.below B0)
  obtain ⟨A, ca, rfl, _⟩ := hv
  clear B0 C hn
  by_cases hc : fsC p wd ts o = 0
  · have HE := hide (fsR_ok hc)
    have cc := cnt_of hc
    obtain ⟨P, hP⟩ : ∃ P : Nat, p = (P : Int) := ⟨p.toNat, by have := cc.p2; omega⟩
    have P61 : P ≤ 61 := by have := cc.p61; omega
    have HN : Hid (fsN p wd ts o = tot (hitB p wd ts o) P P) := hide (by unfold fsN; rw [hP, Int.toNat_natCast])
    have K2 := hide (fun (a b : Nat) W (hq : BC w.heap.size p wd (.slice none 0 0) (.slice none 0 0) W) (hv : intsV W (.slice A ts.length ca) ts) ha hb => stands61 w.heap.size p wd _ _ a b (.slice A ts.length ca) ts o W hq hv cc ha hb)
    have HTI := hide (fun a b ha hb => tot_in (hitB p wd ts o) (P := P) (a := a) (b := b) P61 ha hb)
    rw [hc] at K1
    clear hc cc
    generalize hitB p wd ts o = f at *
    generalize fsR p wd ts o = rr at *
    generalize fsN p wd ts o = nn at *
    subst hP
    have pI : (P : Int) ≤ 61 := by omega
    have p0 : (0 : Int) ≤ (P : Int) := by omega
    clear P61
    go_enter Try.func24, Try.ntmps24
    go_wp2_with fail
    generalize w.alloc (.cells #[.int .i64 (P : Int), .int .i64 wd, .slice none 0 0, .slice none 0 0] 26) = w0 at *
    refine (unhide K1).mono ?_
    rintro e w1 ⟨rfl, b1⟩
    have B1 := hide b1
    clear b1 K1
    go_wp2
    go_loopw [12, 25] (fun cn i wr => ∃ a : Nat, a ≤ P ∧ i = .int .i64 a ∧ cn = .int .i64 ((tot f P a : Nat) : Int) ∧ Below w0.heap.size w0 wr) (fun _ i _ => P - (intOf i).toNat)
    case atStart => exact ⟨0, by omega, rfl, rfl, unhide B1⟩
    case round =>
      obtain ⟨a, ha, rfl, rfl, hbl⟩ := hrel
      by_cases hlt : a < P
      · have q1 : (a : Int) < (P : Int) := by omega
        have q0 : (0 : Int) ≤ (a : Int) := by omega
        have HA := hide hlt
        have HBL := hide hbl
        have HT2 : Hid (tot f P (a + 1) = tot f P a + cnt (f a) P) := hide rfl
        obtain ⟨t2, ht2⟩ : ∃ t2, t2 = tot f P (a + 1) := ⟨_, rfl⟩
        rw [← ht2] at HT2
        have HTN0 := hide ht2
        clear ht2
        clear hlt ha hbl
        have HTA := hide (fun b hb => unhide HTI a b (unhide HA) hb)
        have HS0 : Hid (tot f P a = tot f P a + cnt (f a) 0) := hide rfl
        generalize tot f P a = ta at *
        go_wp2
        go_loopw [12, 29] (fun cn i wr => ∃ b : Nat, b ≤ P ∧ i = .int .i64 b ∧ cn = .int .i64 ((ta + cnt (f a) b : Nat) : Int) ∧ Below w0.heap.size w0 wr) (fun _ i _ => P - (intOf i).toNat)
        case atStart => first | exact ⟨0, by omega, rfl, rfl, unhide HBL⟩ | ((repeat apply Exists.intro); exact ⟨⟨0, by omega, rfl, rfl, unhide HBL⟩, rfl⟩)
        case round =>
          obtain ⟨b, hb, rfl, rfl, hbl⟩ := hrel
          by_cases hlb : b < P
          · have r1 : (b : Int) < (P : Int) := by omega
            have r0 : (0 : Int) ≤ (b : Int) := by omega
            have KS := hide (unhide K2 a b wr ((unhide HC).below hbl) ((unhide HV).below hbl) q1 r1)
            have m1 : ((ta + cnt (f a) b : Nat) : Int) ≤ 3721 := by have := unhide HTA b (by omega); omega
            have m0 : (0 : Int) ≤ ((ta + cnt (f a) b : Nat) : Int) := Int.natCast_nonneg _
            have HS0' : Hid (f a b = false → ta + cnt (f a) (b + 1) = ta + cnt (f a) b) := hide fun h => by
              show ta + (cnt (f a) b + if f a b then 1 else 0) = _
              rw [h]; simp
            have HS1' : Hid (f a b = true → ta + cnt (f a) (b + 1) = ta + cnt (f a) b + 1) := hide fun h => by
              show ta + (cnt (f a) b + if f a b then 1 else 0) = _
              rw [h]; simp; omega
            have HLB := hide hlb
            have HBB := hide hbl
            clear hlb hb hbl
            generalize f a b = hit at *
            generalize ta + cnt (f a) b = m at *
            cases hit
            · have HM := hide (unhide HS0' rfl)
              go_wp2_with fail
              refine (unhide KS).mono ?_
              rintro e w2 ⟨rfl, b2⟩
              have B2 := hide (bl_st b2 (unhide HBB))
              clear b2 KS
              go_wp2
              go_roundw
              case rel => first | exact ⟨b + 1, unhide HLB, by go_num, by rw [unhide HM], unhide B2⟩ | ((repeat apply Exists.intro); exact ⟨⟨b + 1, unhide HLB, by go_num, by rw [unhide HM], unhide B2⟩, rfl⟩)
              case measure => have := unhide HLB; simp [intOf]; omega
            · have HM := hide (unhide HS1' rfl)
              go_wp2_with fail
              refine (unhide KS).mono ?_
              rintro e w2 ⟨rfl, b2⟩
              have B2 := hide (bl_st b2 (unhide HBB))
              clear b2 KS
              go_wp2
              go_roundw
              case rel => first | exact ⟨b + 1, unhide HLB, by go_num, by rw [unhide HM]; go_num, unhide B2⟩ | ((repeat apply Exists.intro); exact ⟨⟨b + 1, unhide HLB, by go_num, by rw [unhide HM]; go_num, unhide B2⟩, rfl⟩)
              case measure => have := unhide HLB; simp [intOf]; omega
          · obtain rfl : b = P := by omega
            have HBB := hide hbl
            clear hlb hbl
            rw [← unhide HT2]
            go_wp2
            go_roundw
            case rel => first | exact ⟨a + 1, unhide HA, by go_num, by rw [← unhide HTN0], unhide HBB⟩ | ((repeat apply Exists.intro); exact ⟨⟨a + 1, unhide HA, by go_num, by rw [← unhide HTN0], unhide HBB⟩, rfl⟩)
            case measure => have := unhide HA; simp [intOf]; omega
      · obtain rfl : a = P := by omega
        have HBB := hide hbl
        clear hlt hbl
        rw [← unhide HN]
        go_wp2
        go_ret2
        exact ⟨by rw [unhide HE]; rfl, bl_st (unhide HBB) (unhide HB)⟩
  · have HE := hide (fsR_code (p := p) (wd := wd) (ts := ts) (o := o) rfl hc)
    have hc2 : ((fsC p wd ts o) != 0) = true := by simpa using hc
    generalize fsR p wd ts o = rr at *
    generalize fsC p wd ts o = cc at *
    clear hc
    go_enter Try.func24, Try.ntmps24
    go_wp2_with fail
    generalize w.alloc (.cells #[.int .i64 p, .int .i64 wd, .slice none 0 0, .slice none 0 0] 26) = w0 at *
    refine (unhide K1).mono ?_
    rintro e w1 ⟨rfl, b1⟩
    have B1 := hide (bl_st b1 (unhide HB))
    clear b1 K1
    go_wp2
    go_ret2
    exact ⟨by rw [unhide HE]; rfl, unhide B1⟩
end Go.Proofs.Ythckgccfjpgbaaa
