/- The law FnExactTalkRun. -/
import Derived.Test.YthonnlifgdnacaaHta
namespace Go.Proofs.Ythonnlifgdnacaa
open Go.RowKit
set_option maxHeartbeats 4000000
set_option maxRecDepth 20000
set_option linter.unusedVariables false
theorem law_run (w : World) (v : Value) (al : List Ta) (hv : actsV w v al) (hl : al.length ≤ maxLen) (ht : ∀ a ∈ al, a.t.size ≤ maxLen) :
    Calls Try.prog 10 #[v] w fun e w' => e = .returned (.bool true) ∧ Below w.heap.size w w' := by
  have KZ := hide (sz34 v al w hv hl ht)
  have KR := hide (fun W u (h : actsV W u al) => run13 u al W h hl ht)
  have KI := hide (fun W u (h : actsV W u al) => run12 u al W h hl ht)
  have HV := hide hv
  obtain ⟨A, cap, rfl⟩ := hv.slice
  clear ht hl hv
  go_enter Try.func10, Try.ntmps10
  go_wp2_with fail
  refine (unhide KZ).mono ?_
  rintro e w1 ⟨z, rfl, hz, b1⟩
  rcases hz with hz | ⟨hz, hn, _⟩
  · have B1 := hide b1
    clear b1 KZ
    go_wp2
    go_ret
    exact ⟨rfl, unhide B1⟩
  have B1 := hide b1
  have HV1 := hide ((unhide HV).below b1)
  have HN : Hid (al.length ≤ 1048576) := hide hn
  have KT := hide (fun W (h : actsV W (.slice A al.length cap) al) => to35 _ al W h (by omega))
  have KE := hide (fun W (u : Value) (u' : Value) (h : actsV W u al) (h' : actsV W u' al) => eq38 u u' al W h h' (by omega))
  have KM := hide (fun W g (h : nC W g (al.length * 5)) => mark39 g al.length W h hn)
  have FW := hide (few8_run al)
  have XL := hide (oX_len al)
  have KP := hide (fun W lv lw base g (h : pO W lv base g (oZ al)) (hw : wV W lw (oZ al)) => eqP h hw (few8_run al))
  have KQ := hide (fun W a b (h : intsV W a (oX al)) (h' : intsV W b (oX al)) => eq37 a b (oX al) W h h' (by have := oX_len al; omega))
  have KMP := hide (fun W lv base g (h : pO W lv base g (oZ al)) => markPP h (few8_run al))
  have KHP := hide (fun W lv base g (h : pO W lv base g (mkO (oZ al))) => heldPP h (few8_run al))
  have KTK := hide (fun W lv cv (h : tkO W lv cv al) => tk_parts h)
  have KTR := hide (fun W X lv cv (h : trO W X lv cv al) => tr_parts h)
  have HLE : Hid (lenO (oZ al) ≤ 4004) := hide (lenO_le (few8_run al))
  have KMI := hide (fun W cv cb (h : iO W cv cb (oX al)) => mark41 cb cv (oX al) (1 + lenO (oZ al)) W h (by have := oX_len al; omega) (by have := lenO_le (few8_run al); omega))
  have KHI := hide (fun W cv (h : intsV W cv (marksI (1 + lenO (oZ al)) (oX al).length)) => held43 cv (1 + lenO (oZ al)) (oX al).length W h (by have := oX_len al; omega) (by have := lenO_le (few8_run al); omega))
  have m0 : (0 : Int) ≤ ((1 + lenO (oZ al) : Nat) : Int) := by omega
  have m1 : ((1 + lenO (oZ al) : Nat) : Int) ≤ 4005 := by have := unhide HLE; omega
  have m2 : (0 : Int) ≤ ((oX al).length : Int) := by omega
  have m3 : ((oX al).length : Int) ≤ 120 := by have := unhide XL; omega
  generalize hK : ((1 + lenO (oZ al) : Nat) : Int) = k1 at *
  have k5 : (0 : Int) ≤ 1 + 5 * (al.length : Int) := by omega
  have k6 : 1 + 5 * (al.length : Int) ≤ 5242881 := by omega
  generalize hK5 : 1 + 5 * (al.length : Int) = k39 at *
  generalize hMK : marksI (1 + lenO (oZ al)) (oX al).length = mI at *
  generalize hnX : ((oX al).length : Int) = nX at *
  generalize hZ : oZ al = oz at *
  generalize hX : oX al = ox at *
  generalize tkC al = tk at *
  clear hK hK5 hMK hnX hZ hX hn b1 KZ FW XL HLE
  go_wp2_with fail
  refine (unhide KT w1 (unhide HV1)).mono ?_
  rintro e w2 ⟨rfl, hT2, b2⟩
  have HV2 := hide ((unhide HV1).below b2)
  have B2 := hide (bl_st b2 (unhide B1))
  have A2 := hide (tO_acts (c := al.length) hT2)
  clear hT2 b2 HV1 B1
  go_wp2_with fail
  refine (unhide KR w2 _ (unhide A2)).mono ?_
  rintro e w3 ⟨lw, cw, rfl, ho, b3⟩
  have TK := hide (unhide KTK _ _ _ ho)
  have HV3 := hide ((unhide HV2).below b3)
  have B3 := hide (bl_st b3 (unhide B2))
  clear ho b3 HV2 B2 A2
  go_wp2_with fail
  refine (unhide KT w3 (unhide HV3)).mono ?_
  rintro e w4 ⟨rfl, hT4, b4⟩
  obtain ⟨gx, hgx⟩ : ∃ g, g = w3.heap.size := ⟨_, rfl⟩
  rw [← hgx] at hT4 ⊢
  have HT4 := hide hT4
  have C4 := hide b4
  have HGX := hide hgx
  have A4 := hide (tO_acts (c := al.length) hT4)
  clear hT4 b4 hgx
  go_wp2_with fail
  refine (unhide KI w4 _ (unhide A4)).mono ?_
  rintro e w5 ⟨lv, cv, rfl, ho, b5⟩
  obtain ⟨g, cb, base, g1, g2, g3, g4, g5, hp, hi⟩ := unhide KTR _ _ _ _ ho
  have NUM : Hid (gx < g ∧ gx < cb ∧ g ≠ cb ∧ g < base ∧ cb < base) := hide (by have := (Array.getElem?_eq_some_iff.1 (unhide HT4)).1; omega)
  have HP5 := hide hp
  have HI5 := hide hi
  have HT5 := hide ((b5.block _ (Array.getElem?_eq_some_iff.1 (unhide HT4)).1).trans (unhide HT4))
  have C5 := hide (bl_st b5 (unhide C4))
  clear ho hp hi g1 g2 g3 g4 g5 b5 C4 A4 HT4
  go_wp2_with fail
  refine (unhide KP w5 lv lw base g (unhide HP5) ((unhide TK).1.below (unhide C5))).mono ?_
  rintro e w6 ⟨rfl, b6⟩
  have HP6 := hide ((unhide HP5).below b6)
  have HI6 := hide ((unhide HI5).below b6)
  have C6 := hide (bl_st b6 (unhide C5))
  have HT6 := hide ((b6.block _ (Array.getElem?_eq_some_iff.1 (unhide HT5)).1).trans (unhide HT5))
  clear b6 HP5 HI5 C5 HT5
  go_wp2_with fail
  refine (unhide KQ w6 cv cw (unhide HI6).ints ((unhide TK).2.below (unhide C6))).mono ?_
  rintro e w7 ⟨rfl, b7⟩
  have HP7 := hide ((unhide HP6).below b7)
  have HI7 := hide ((unhide HI6).below b7)
  have C7 := hide (bl_st b7 (unhide C6))
  have HT7 := hide ((b7.block _ (Array.getElem?_eq_some_iff.1 (unhide HT6)).1).trans (unhide HT6))
  clear b7 HP6 HI6 C6 HT6
  go_wp2_with fail
  refine (unhide KT w7 ((unhide HV3).below (unhide C7))).mono ?_
  rintro e w8 ⟨rfl, hTn, b8⟩
  have HP8 := hide ((unhide HP7).below b8)
  have HI8 := hide ((unhide HI7).below b8)
  have C8 := hide (bl_st b8 (unhide C7))
  have HT8 := hide ((b8.block _ (Array.getElem?_eq_some_iff.1 (unhide HT7)).1).trans (unhide HT7))
  have AN := hide (tO_acts (c := al.length) hTn)
  clear b8 HP7 HI7 C7 HT7 hTn
  go_wp2_with fail
  refine (unhide KE w8 _ _ (tO_acts (c := al.length) (unhide HT8)) (unhide AN)).mono ?_
  rintro e w9 ⟨rfl, b9⟩
  have HP9 := hide ((unhide HP8).below b9)
  have HI9 := hide ((unhide HI8).below b9)
  have C9 := hide (bl_st b9 (unhide C8))
  have HT9 := hide ((b9.block _ (Array.getElem?_eq_some_iff.1 (unhide HT8)).1).trans (unhide HT8))
  clear b9 HP8 HI8 C8 HT8
  clear AN
  go_wp2_with fail
  refine (unhide KM w9 gx (tO_nC (unhide HT9))).mono ?_
  rintro e w10 ⟨rfl, L10⟩
  have HP10 := hide ((unhide HP9).lone L10 (by have := unhide NUM; omega) (by have := unhide NUM; omega))
  have HI10 := hide ((unhide HI9).lone L10 (by have := unhide NUM; omega))
  have C10 := hide (L10.below (unhide C9) (by have := unhide HGX; omega) (unhide C9).size)
  clear L10 HP9 HI9 C9 HT9
  go_wp2_with fail
  refine (unhide KP w10 lv lw base g (unhide HP10) ((unhide TK).1.below (unhide C10))).mono ?_
  rintro e w11 ⟨rfl, b11⟩
  have HP11 := hide ((unhide HP10).below b11)
  have HI11 := hide ((unhide HI10).below b11)
  have C11 := hide (bl_st b11 (unhide C10))
  clear b11 HP10 HI10 C10
  go_wp2_with fail
  refine (unhide KQ w11 cv cw (unhide HI11).ints ((unhide TK).2.below (unhide C11))).mono ?_
  rintro e w12 ⟨rfl, b12⟩
  have HP12 := hide ((unhide HP11).below b12)
  have HI12 := hide ((unhide HI11).below b12)
  have C12 := hide (bl_st b12 (unhide C11))
  clear b12 HP11 HI11 C11
  go_wp2_with fail
  refine (unhide KMP w12 lv base g (unhide HP12)).mono ?_
  rintro e w13 ⟨rfl, hp, ht⟩
  have HP13 := hide hp
  have HI13 := hide ((unhide HI12).touchT ht (by have := unhide NUM; omega) (by have := unhide NUM; omega))
  have C13 := hide (ht.below (unhide C12) (by have := unhide NUM; have := unhide HGX; omega) (by have := unhide NUM; have := unhide HGX; omega) (unhide C12).size)
  clear hp ht HP12 HI12 C12
  go_wp2_with fail
  refine (unhide KMI w13 cv cb (unhide HI13)).mono ?_
  rintro e w14 ⟨rfl, hi, L14⟩
  have HP14 := hide ((unhide HP13).lone L14 (by have := unhide NUM; omega) (by have := unhide NUM; omega))
  have HI14 := hide hi
  have C14 := hide (L14.below (unhide C13) (by have := unhide NUM; have := unhide HGX; omega) (unhide C13).size)
  clear hi L14 HP13 HI13 C13
  go_wp2_with fail
  refine (unhide KHP w14 lv base g (unhide HP14)).mono ?_
  rintro e w15 ⟨rfl, b15⟩
  have HP15 := hide ((unhide HP14).below b15)
  have HI15 := hide ((unhide HI14).below b15)
  have C15 := hide (bl_st b15 (unhide C14))
  clear b15 HP14 HI14 C14
  go_wp2_with fail
  refine (unhide KHI w15 cv (unhide HI15).ints).mono ?_
  rintro e wh ⟨rfl, hwh⟩
  have hwh := hwh.symm
  subst hwh
  go_wp2_with fail
  refine (unhide KT w15 ((unhide HV3).below (unhide C15))).mono ?_
  rintro e w16 ⟨rfl, hTn, b16⟩
  have HP16 := hide ((unhide HP15).below b16)
  have HI16 := hide ((unhide HI15).below b16)
  have C16 := hide (bl_st b16 (unhide C15))
  have AN := hide (tO_acts (c := al.length) hTn)
  clear b16 HP15 HI15 C15 hTn
  go_wp2_with fail
  refine (unhide KI w16 _ (unhide AN)).mono ?_
  rintro e w17 ⟨lh, ch, rfl, ho, b17⟩
  obtain ⟨g', cb', base', _, _, _, _, _, hp, hi⟩ := unhide KTR _ _ _ _ ho
  have HQ17 := hide hp
  have HJ17 := hide hi
  have HP17 := hide ((unhide HP16).below b17)
  have HI17 := hide ((unhide HI16).below b17)
  have C17 := hide (bl_st b17 (unhide C16))
  clear b17 ho hp hi HP16 HI16 C16 AN
  go_wp2_with fail
  refine (unhide KP w17 lh lw base' g' (unhide HQ17) ((unhide TK).1.below (unhide C17))).mono ?_
  rintro e w18 ⟨rfl, b18⟩
  have HP18 := hide ((unhide HP17).below b18)
  have HI18 := hide ((unhide HI17).below b18)
  have C18 := hide (bl_st b18 (unhide C17))
  have HJ18 := hide ((unhide HJ17).below b18)
  clear b18 HP17 HI17 C17
  go_wp2_with fail
  refine (unhide KQ w18 ch cw (unhide HJ18).ints ((unhide TK).2.below (unhide C18))).mono ?_
  rintro e w19 ⟨rfl, b19⟩
  have HP19 := hide ((unhide HP18).below b19)
  have HI19 := hide ((unhide HI18).below b19)
  have C19 := hide (bl_st b19 (unhide C18))
  clear b19 HP18 HI18 C18
  go_wp2_with fail
  refine (unhide KHP w19 lv base g (unhide HP19)).mono ?_
  rintro e w20 ⟨rfl, b20⟩
  have HP20 := hide ((unhide HP19).below b20)
  have HI20 := hide ((unhide HI19).below b20)
  have C20 := hide (bl_st b20 (unhide C19))
  clear b20 HP19 HI19 C19
  go_wp2_with fail
  refine (unhide KHI w20 cv (unhide HI20).ints).mono ?_
  rintro e wh ⟨rfl, hwh⟩
  have hwh := hwh.symm
  subst hwh
  go_wp2_with fail
  go_ret
  exact ⟨rfl, bl_st (unhide C20) (unhide B3)⟩
end Go.Proofs.Ythonnlifgdnacaa
