/- The contract of the model's going up, and of what is made of it. -/
import Derived.Test.YtncplefjokbbjaaSpecD
import Derived.Test.YtncplefjokbbjaaClamp
namespace Go.Proofs.Ytncplefjokbbjaa
open Go.RowKit
set_option maxHeartbeats 3200000
set_option maxRecDepth 10000
theorem zero10row (w : World) : Row10 (w.alloc (.cells #[.int .i64 0, .int .i64 0, .int .i64 0, .int .i64 0, .int .i64 0, .int .i64 0, .int .i64 0, .int .i64 0, .int .i64 0, .int .i64 0] 3)) w.heap.size 0 :=
  ⟨0, 0, 0, 0, 0, 0, 0, 0, 0, 0, [], by rw [heap_alloc_new]; rfl, by unfold In26; omega, by unfold V10; rfl⟩
theorem bit_zero (c : UInt8) (t : Nat) : (bits .and .i64 (wrap64 (c.toNat : Int) / 2 ^ t) 1 == 0) = !c.toNat.testBit t := by
  have hc := UInt8.toNat_lt c
  rw [IntWalk.wrap64_in _ (by omega)]
  have e2 : ((c.toNat : Int) / 2 ^ t) = ((c.toNat / 2 ^ t : Nat) : Int) := by simp
  have e3 : c.toNat / 2 ^ t < 9223372036854775808 := Nat.lt_of_le_of_lt (Nat.div_le_self _ _) (by omega)
  rw [e2, Nat.testBit_eq_decide_div_mod_eq]
  generalize c.toNat / 2 ^ t = q at *
  rw [and_one q e3, Bool.eq_iff_iff]
  simp
  omega
/-- the number that a text of thirty-two bytes is read as, its highest bit left out -/
def lowN (u : ByteArray) : Int := (numN u : Int) % 57896044618658097711785492504343953926634992332820282019728792003956564819968
set_option maxRecDepth 100000 in
theorem ladder_any (k u : ByteArray) (hk : k.size = 32) (hu : u.size = 32) (w : World) :
    Calls Try.prog 43 #[.string k, .string u] w fun e w' => e = .returned (.string (enc (up (lowN u) (numN k) % pInt))) ∧ Below w.heap.size w w' := by
  have hm := make10
  obtain ⟨i0, hi, hz0, hz1, hz2⟩ := info_parts info3
  go_enter Try.func43, Try.ntmps43
  go_wp2_with fail
  refine (load_any u hu _).mono ?_
  rintro e w1 ⟨rfl, hw1⟩
  have R1 := load_row u w
  rw [← hw1] at R1
  have hb1 : Below w.heap.size w w1 := by rw [hw1]; exact (Below.refl _ _).alloc (Nat.le_refl _) _
  have B1 := hide hb1
  have Q1 : Hid (Row10 w1 w.heap.size (lowN u)) := hide R1
  have hlt : w.heap.size < w1.heap.size := R1.lt
  clear hw1 R1 hb1
  obtain ⟨x0, x1, x2, x3, x4, x5, x6, x7, x8, x9, rest, h1, h2, h3⟩ := unhide Q1
  have HR := hide (row_news (w := ((w1.alloc (.cells #[.int .i64 1, .int .i64 0, .int .i64 0, .int .i64 0, .int .i64 0, .int .i64 0, .int .i64 0, .int .i64 0, .int .i64 0, .int .i64 0] 3)).alloc (.cells #[.int .i64 0, .int .i64 0, .int .i64 0, .int .i64 0, .int .i64 0, .int .i64 0, .int .i64 0, .int .i64 0, .int .i64 0, .int .i64 0] 3)).alloc (.cells #[] 3)) (show (((w1.alloc (.cells #[.int .i64 1, .int .i64 0, .int .i64 0, .int .i64 0, .int .i64 0, .int .i64 0, .int .i64 0, .int .i64 0, .int .i64 0, .int .i64 0] 3)).alloc (.cells #[.int .i64 0, .int .i64 0, .int .i64 0, .int .i64 0, .int .i64 0, .int .i64 0, .int .i64 0, .int .i64 0, .int .i64 0, .int .i64 0] 3)).alloc (.cells #[] 3)).heap[w.heap.size]? = some (rowObj 3 .i64 [x0, x1, x2, x3, x4, x5, x6, x7, x8, x9] rest) by
    rw [heap_alloc_old _ _ (by simp only [World.size_alloc]; omega), heap_alloc_old _ _ (by simp only [World.size_alloc]; omega), heap_alloc_old _ _ hlt]; exact h1))
  clear h1
  go_wp2_with (at_builtin; refine wpList_append_own _ rfl _ _ 51 rfl (w1.heap.size + 1 + 1) 3 i0 (.int .i64 0) 1 8 Try.underlying51 hi hz0 hz1 hz2 rfl (by decide) _ _ _ rfl (own_made ((w1.alloc (.cells #[.int .i64 1, .int .i64 0, .int .i64 0, .int .i64 0, .int .i64 0, .int .i64 0, .int .i64 0, .int .i64 0, .int .i64 0, .int .i64 0] 3)).alloc (.cells #[.int .i64 0, .int .i64 0, .int .i64 0, .int .i64 0, .int .i64 0, .int .i64 0, .int .i64 0, .int .i64 0, .int .i64 0, .int .i64 0] 3)) (w1.heap.size + 1 + 1) (w1.heap.size + 1 + 1) 3 (by simp) (by simp)) ⟨w.heap.size, 0, none⟩ 10 10 ([x0, x1, x2, x3, x4, x5, x6, x7, x8, x9].map (Value.int .i64)) rfl rfl (unhide HR) (one_news _ _) ?d3 ?d4 ?d5 ?_)
  case d3 => unfold maxLen; omega
  case d4 => omega
  case d5 => simp only [World.size_alloc]; omega
  intro v' w2 hown hgrow _
  obtain ⟨g, cap1, rest1, rfl, hg1, hg2, hg3⟩ := own_row (n := 10) (kd := .i64) (xs := [x0, x1, x2, x3, x4, x5, x6, x7, x8, x9]) (by simpa using hown) (by omega)
  have Qp : Hid (Row10 w2 g (lowN u)) := hide ⟨x0, x1, x2, x3, x4, x5, x6, x7, x8, x9, rest1, hg3, h2, h3⟩
  have hbY : Below ((w1.alloc (.cells #[.int .i64 1, .int .i64 0, .int .i64 0, .int .i64 0, .int .i64 0, .int .i64 0, .int .i64 0, .int .i64 0, .int .i64 0, .int .i64 0] 3)).alloc (.cells #[.int .i64 0, .int .i64 0, .int .i64 0, .int .i64 0, .int .i64 0, .int .i64 0, .int .i64 0, .int .i64 0, .int .i64 0, .int .i64 0] 3)).heap.size ((w1.alloc (.cells #[.int .i64 1, .int .i64 0, .int .i64 0, .int .i64 0, .int .i64 0, .int .i64 0, .int .i64 0, .int .i64 0, .int .i64 0, .int .i64 0] 3)).alloc (.cells #[.int .i64 0, .int .i64 0, .int .i64 0, .int .i64 0, .int .i64 0, .int .i64 0, .int .i64 0, .int .i64 0, .int .i64 0, .int .i64 0] 3)) w2 := ((Below.refl _ _).alloc (Nat.le_refl _) _).grown hgrow (by simp) (fun k hk => by simp [Value.ownBlock] at hk; simp; omega)
  have Q1' : Hid (Row10 w2 w.heap.size (lowN u)) := hide (((unhide Q1).kept (((Below.refl _ w1).alloc (Nat.le_refl _) _).alloc (by simp) _)).kept hbY)
  have Qx : Hid (Row10 w2 w1.heap.size 1) := hide (((one10 w1).kept ((Below.refl _ _).alloc (Nat.le_refl _) _)).kept hbY)
  have Qz : Hid (Row10 w2 (w1.heap.size + 1) 0) := hide ((by have := zero10row (w1.alloc (.cells #[.int .i64 1, .int .i64 0, .int .i64 0, .int .i64 0, .int .i64 0, .int .i64 0, .int .i64 0, .int .i64 0, .int .i64 0, .int .i64 0] 3)); rwa [World.size_alloc] at this : Row10 ((w1.alloc (.cells #[.int .i64 1, .int .i64 0, .int .i64 0, .int .i64 0, .int .i64 0, .int .i64 0, .int .i64 0, .int .i64 0, .int .i64 0, .int .i64 0] 3)).alloc (.cells #[.int .i64 0, .int .i64 0, .int .i64 0, .int .i64 0, .int .i64 0, .int .i64 0, .int .i64 0, .int .i64 0, .int .i64 0, .int .i64 0] 3)) (w1.heap.size + 1) 0).kept hbY)
  have B2 : Hid (Below w.heap.size w w2) := hide ((unhide B1).trans (((((Below.refl _ w1).alloc (Nat.le_refl _) _).alloc (by simp) _).trans (hbY.mono (by simp; omega))).mono (unhide B1).size))
  clear hown hgrow hg3 hbY HR h2 h3 Q1 B1
  go_wp2
  clear hm
  have B3 : Hid (Below w.heap.size w (w2.alloc (.cells #[.int .i64 1, .int .i64 0, .int .i64 0, .int .i64 0, .int .i64 0, .int .i64 0, .int .i64 0, .int .i64 0, .int .i64 0, .int .i64 0] 3))) := hide ((unhide B2).alloc (unhide B2).size _)
  have hbn : Below w2.heap.size w2 (w2.alloc (.cells #[.int .i64 1, .int .i64 0, .int .i64 0, .int .i64 0, .int .i64 0, .int .i64 0, .int .i64 0, .int .i64 0, .int .i64 0, .int .i64 0] 3)) := (Below.refl _ _).alloc (Nat.le_refl _) _
  have Q1 := hide ((unhide Q1').kept hbn)
  have Rx := hide ((unhide Qx).kept hbn)
  have Rz := hide ((unhide Qz).kept hbn)
  have Rp := hide ((unhide Qp).kept hbn)
  have Rq : Hid (Row10 (w2.alloc (.cells #[.int .i64 1, .int .i64 0, .int .i64 0, .int .i64 0, .int .i64 0, .int .i64 0, .int .i64 0, .int .i64 0, .int .i64 0, .int .i64 0] 3)) w2.heap.size 1) := hide (one10 w2)
  clear Q1' Qx Qz Qp B2 hbn hi hz0 hz1 hz2
  go_loopw [6, 7, 8, 9, 10] (fun X Z P Q c wr => ∃ bx cx bz cz bp cp bq cq, X = .slice (some ⟨bx, 0, none⟩) 10 cx ∧ Z = .slice (some ⟨bz, 0, none⟩) 10 cz ∧ P = .slice (some ⟨bp, 0, none⟩) 10 cp ∧ Q = .slice (some ⟨bq, 0, none⟩) 10 cq ∧ Below w.heap.size w wr ∧ Row10 wr w.heap.size (lowN u) ∧
      ((∃ i : Nat, i < 255 ∧ c = .int .i64 i ∧ Row10 wr bx (ladAt (lowN u) (numN k) i).1 ∧ Row10 wr bz (ladAt (lowN u) (numN k) i).2.1 ∧ Row10 wr bp (ladAt (lowN u) (numN k) i).2.2.1 ∧ Row10 wr bq (ladAt (lowN u) (numN k) i).2.2.2) ∨ (c = .int .i64 (-1) ∧ Row10 wr bx (ladEnd (lowN u) (numN k)).1 ∧ Row10 wr bz (ladEnd (lowN u) (numN k)).2.1))) (fun _ _ _ _ c _ => (intOf c + 1).toNat)
  case atStart => exact ⟨w1.heap.size, 10, w1.heap.size + 1, 10, g, cap1, w2.heap.size, 10, rfl, rfl, rfl, rfl, unhide B3, unhide Q1, .inl ⟨254, by omega, rfl, unhide Rx, unhide Rz, unhide Rp, unhide Rq⟩⟩
  case round =>
    clear B3 Q1 Rx Rz Rp Rq
    obtain ⟨bx, cx, bz, cz, bp, cp, bq, cq, rfl, rfl, rfl, rfl, hbel, hU, hcase⟩ := hrel
    have QU := hide hU
    have HB := hide hbel
    clear hU hbel
    rcases hcase with ⟨i, hi, rfl, hx, hz, hp, hq⟩ | ⟨rfl, hx, hz⟩
    · have QX := hide hx
      have QZ := hide hz
      have QP := hide hp
      have QQ := hide hq
      clear hx hz hp hq
      have hb := bit_zero (k[i / 8]'(by omega)) (i % 8)
      rw [← numN_bit k i (by omega)] at hb
      cases ht : (numN k).testBit i with
      | true =>
        rw [ht] at hb
        have HT : Hid ((numN k).testBit i = true) := hide ht
        clear ht
        go_wp2_with fail
        refine (lsum_any _ bx bz bp bq w.heap.size cx cz cp cq 10 _ _ _ _ _ (unhide QX) (unhide QZ) (unhide QP) (unhide QQ) (unhide QU)).mono ?_
        rintro e w3 ⟨k1, k2, rfl, hb3, hs1, hs2⟩
        have S1 := hide hs1
        have S2 := hide hs2
        have QX' := hide ((unhide QX).kept hb3)
        have QZ' := hide ((unhide QZ).kept hb3)
        have QP' := hide ((unhide QP).kept hb3)
        have QQ' := hide ((unhide QQ).kept hb3)
        have QU' := hide ((unhide QU).kept hb3)
        have B' := hide ((unhide HB).trans (hb3.mono (unhide HB).size))
        clear hs1 hs2 hb3 QX QZ QP QQ QU HB
        have QX := QX'
        have QZ := QZ'
        have QP := QP'
        have QQ := QQ'
        clear QX' QZ' QP' QQ'
        go_wp2_with fail
        refine (ldouble_any _ bp bq cp cq _ _ (unhide QP) (unhide QQ)).mono ?_
        rintro e w4 ⟨k3, k4, rfl, hb4, hd1, hd2⟩
        have D1 := hide hd1
        have D2 := hide hd2
        have S1' := hide ((unhide S1).kept hb4)
        have S2' := hide ((unhide S2).kept hb4)
        have QU := hide ((unhide QU').kept hb4)
        have B2 := hide ((unhide B').trans (hb4.mono (unhide B').size))
        clear hd1 hd2 hb4 QX QZ QP QQ QU' B' S1 S2
        have S1 := S1'
        have S2 := S2'
        clear S1' S2'
        go_wp2
        go_roundw
        case rel =>
          rcases i with _ | i
          · have E := (ladEnd_step (lowN u) (numN k)).trans (by rw [unhide HT])
            rw [lstep_t] at E
            have hx1 := congrArg (·.1) E
            have hz1 := congrArg (·.2.1) E
            simp only at hx1 hz1
            first | exact ⟨k1, 10, k2, 10, k3, 10, k4, 10, rfl, rfl, rfl, rfl, unhide B2, unhide QU, .inr ⟨by go_num, by rw [hx1]; exact unhide S1, by rw [hz1]; exact unhide S2⟩⟩ | ((repeat apply Exists.intro); exact ⟨⟨k1, 10, k2, 10, k3, 10, k4, 10, rfl, rfl, rfl, rfl, unhide B2, unhide QU, .inr ⟨by go_num, by rw [hx1]; exact unhide S1, by rw [hz1]; exact unhide S2⟩⟩, rfl⟩)
          · have E := (ladAt_step (lowN u) (numN k) i (by omega)).trans (by rw [unhide HT])
            rw [lstep_t] at E
            have hx1 := congrArg (·.1) E
            have hz1 := congrArg (·.2.1) E
            have hp1 := congrArg (·.2.2.1) E
            have hq1 := congrArg (·.2.2.2) E
            simp only at hx1 hz1 hp1 hq1
            first | exact ⟨k1, 10, k2, 10, k3, 10, k4, 10, rfl, rfl, rfl, rfl, unhide B2, unhide QU, .inl ⟨i, by omega, by go_num, by rw [hx1]; exact unhide S1, by rw [hz1]; exact unhide S2, by rw [hp1]; exact unhide D1, by rw [hq1]; exact unhide D2⟩⟩ | ((repeat apply Exists.intro); exact ⟨⟨k1, 10, k2, 10, k3, 10, k4, 10, rfl, rfl, rfl, rfl, unhide B2, unhide QU, .inl ⟨i, by omega, by go_num, by rw [hx1]; exact unhide S1, by rw [hz1]; exact unhide S2, by rw [hp1]; exact unhide D1, by rw [hq1]; exact unhide D2⟩⟩, rfl⟩)
        case measure => simp [intOf]
      | false =>
        rw [ht] at hb
        have HT : Hid ((numN k).testBit i = false) := hide ht
        clear ht
        go_wp2_with fail
        refine (lsum_any _ bx bz bp bq w.heap.size cx cz cp cq 10 _ _ _ _ _ (unhide QX) (unhide QZ) (unhide QP) (unhide QQ) (unhide QU)).mono ?_
        rintro e w3 ⟨k1, k2, rfl, hb3, hs1, hs2⟩
        have S1 := hide hs1
        have S2 := hide hs2
        have QX' := hide ((unhide QX).kept hb3)
        have QZ' := hide ((unhide QZ).kept hb3)
        have QP' := hide ((unhide QP).kept hb3)
        have QQ' := hide ((unhide QQ).kept hb3)
        have QU' := hide ((unhide QU).kept hb3)
        have B' := hide ((unhide HB).trans (hb3.mono (unhide HB).size))
        clear hs1 hs2 hb3 QX QZ QP QQ QU HB
        have QX := QX'
        have QZ := QZ'
        have QP := QP'
        have QQ := QQ'
        clear QX' QZ' QP' QQ'
        go_wp2_with fail
        refine (ldouble_any _ bx bz cx cz _ _ (unhide QX) (unhide QZ)).mono ?_
        rintro e w4 ⟨k3, k4, rfl, hb4, hd1, hd2⟩
        have D1 := hide hd1
        have D2 := hide hd2
        have S1' := hide ((unhide S1).kept hb4)
        have S2' := hide ((unhide S2).kept hb4)
        have QU := hide ((unhide QU').kept hb4)
        have B2 := hide ((unhide B').trans (hb4.mono (unhide B').size))
        clear hd1 hd2 hb4 QX QZ QP QQ QU' B' S1 S2
        have S1 := S1'
        have S2 := S2'
        clear S1' S2'
        go_wp2
        go_roundw
        case rel =>
          rcases i with _ | i
          · have E := (ladEnd_step (lowN u) (numN k)).trans (by rw [unhide HT])
            rw [lstep_f] at E
            have hx1 := congrArg (·.1) E
            have hz1 := congrArg (·.2.1) E
            simp only at hx1 hz1
            first | exact ⟨k3, 10, k4, 10, k1, 10, k2, 10, rfl, rfl, rfl, rfl, unhide B2, unhide QU, .inr ⟨by go_num, by rw [hx1]; exact unhide D1, by rw [hz1]; exact unhide D2⟩⟩ | ((repeat apply Exists.intro); exact ⟨⟨k3, 10, k4, 10, k1, 10, k2, 10, rfl, rfl, rfl, rfl, unhide B2, unhide QU, .inr ⟨by go_num, by rw [hx1]; exact unhide D1, by rw [hz1]; exact unhide D2⟩⟩, rfl⟩)
          · have E := (ladAt_step (lowN u) (numN k) i (by omega)).trans (by rw [unhide HT])
            rw [lstep_f] at E
            have hx1 := congrArg (·.1) E
            have hz1 := congrArg (·.2.1) E
            have hp1 := congrArg (·.2.2.1) E
            have hq1 := congrArg (·.2.2.2) E
            simp only at hx1 hz1 hp1 hq1
            first | exact ⟨k3, 10, k4, 10, k1, 10, k2, 10, rfl, rfl, rfl, rfl, unhide B2, unhide QU, .inl ⟨i, by omega, by go_num, by rw [hx1]; exact unhide D1, by rw [hz1]; exact unhide D2, by rw [hp1]; exact unhide S1, by rw [hq1]; exact unhide S2⟩⟩ | ((repeat apply Exists.intro); exact ⟨⟨k3, 10, k4, 10, k1, 10, k2, 10, rfl, rfl, rfl, rfl, unhide B2, unhide QU, .inl ⟨i, by omega, by go_num, by rw [hx1]; exact unhide D1, by rw [hz1]; exact unhide D2, by rw [hp1]; exact unhide S1, by rw [hq1]; exact unhide S2⟩⟩, rfl⟩)
        case measure => simp [intOf]
    · have QX := hide hx
      have QZ := hide hz
      clear hx hz
      go_wp2_with fail
      refine (linv_any _ bz cz _ (unhide QZ)).mono ?_
      rintro e w3 ⟨k3, rfl, hb3, hr3⟩
      have Q3 := hide hr3
      have QX' := hide ((unhide QX).kept hb3)
      have B' := hide ((unhide HB).trans (hb3.mono (unhide HB).size))
      clear hr3 hb3 QX QZ HB QU
      go_wp2_with fail
      refine (mul_any _ bx k3 cx 10 _ _ (unhide QX') (unhide Q3)).mono ?_
      rintro e w4 ⟨k4, rfl, _, hb4, hr4⟩
      have Q4 := hide hr4
      have B2 := hide ((unhide B').trans (hb4.mono (unhide B').size))
      clear hr4 hb4 QX' Q3 B'
      go_wp2_with fail
      refine (store_row w4 k4 10 _ (unhide Q4)).mono ?_
      rintro e w5 ⟨rfl, hb5⟩
      rw [less_num]
      go_wp2
      go_ret
      exact ⟨rfl, (unhide B2).trans (hb5.mono (unhide B2).size)⟩
end Go.Proofs.Ytncplefjokbbjaa
