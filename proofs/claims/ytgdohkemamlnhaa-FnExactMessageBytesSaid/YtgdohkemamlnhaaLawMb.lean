/- The law of MessageBytes, walked. -/
import Derived.Test.YtgdohkemamlnhaaMbi
namespace Go.Proofs.Ytgdohkemamlnhaa
open Go.RowKit
set_option maxHeartbeats 4000000
set_option maxRecDepth 20000
theorem MC.touch {p lo hi : Nat} {r s a : Int} {d b : ByteArray} {W W' : World} {v : Value} (h : MC p r s a d b W) (ht : Touch v W W') (hl : liesIn lo hi v) (hp : p < lo) : MC p r s a d b W' := by
  have hne : v.ownBlock ≠ some p := fun hg => by have := (hl p hg).1; omega
  have hc : ∀ i, W'.cell? ⟨p, i, none⟩ = W.cell? ⟨p, i, none⟩ := fun i => by
    unfold World.cell?
    rw [show (⟨p, i, none⟩ : Addr).block = p from rfl, ht.block p hne]
  exact ⟨by rw [ht.size]; exact h.lt, (hc 0).trans h.c0, (hc 1).trans h.c1, (hc 2).trans h.c2, (hc 3).trans h.c3, (hc 4).trans h.c4⟩
theorem law_mb_at (w : World) (r s a : Int) (d b : ByteArray) (hd : d.size ≤ maxLen) (hb : b.size ≤ maxLen) :
    Calls Try.prog 4 #[msgV r s a d b] w fun e w' => e = .returned (.bool true) ∧ Below w.heap.size w w' := by
  have MC0 := hide (mc_new w r s a d b 23)
  have B0 := hide (show Below w.heap.size w (w.alloc (.cells #[.int .i64 r, .int .i64 s, .int .i64 a, .string d, .string b] 23)) from (Below.refl _ _).alloc (Nat.le_refl _) _)
  have h6 := hide (sz6 r s a d b hd hb)
  have HTO := hide (to8 r s a d b)
  have HSP := hide (mb10 r s a d b)
  have HIM := hide (mbI r s a d b)
  have hLn : Hid ((mbL r s a d b).length ≤ 2097152) := hide (by
    unfold mbL
    by_cases h : okM r s a d b = true
    · rw [if_pos h]; obtain ⟨h1, h2⟩ := okM_sizes h; rw [mB_len r s a d b h1 h2]; omega
    · rw [if_neg h]; simp)
  generalize mbC r s a d b = C at *
  generalize mbL r s a d b = L at *
  have l0 : (0 : Int) ≤ (L.length : Int) := by omega
  clear hd hb
  go_enter Try.func4, Try.ntmps4
  go_wp2_with fail
  refine (unhide h6 _).mono ?_
  rintro e w1 ⟨⟨z, rfl, hz⟩, b1⟩
  clear hz
  have MC1 := hide ((unhide MC0).below b1)
  have B1 := hide ((unhide B0).trans (b1.mono (unhide B0).size))
  clear b1 MC0 B0 h6
  obtain ⟨_, c0, c1, c2, c3, c4⟩ := unhide MC1
  by_cases h : z < 0
  · go_wp2
    go_ret
    exact ⟨rfl, unhide B1⟩
  · go_wp2_with fail
    refine (unhide HTO w1).mono ?_
    rintro e w2 ⟨rfl, b2⟩
    have MC2 := hide ((unhide MC1).below b2)
    have B2 := hide ((unhide B1).trans (b2.mono (unhide B1).size))
    clear b2 MC1 B1 c0 c1 c2 c3 c4
    go_wp2_with fail
    -- the specification
    refine (unhide HSP w2).mono ?_
    rintro e w3 ⟨gw, rfl, o3, b3⟩
    have MC3 := hide ((unhide MC2).below b3)
    have B3 := hide ((unhide B2).trans (b3.mono (unhide B2).size))
    have SW3 := hide o3.within
    clear b3 o3 MC2
    obtain ⟨_, c0, c1, c2, c3, c4⟩ := unhide MC3
    go_wp2_with fail
    refine (unhide HTO w3).mono ?_
    rintro e w4 ⟨rfl, b4⟩
    have MC4 := hide ((unhide MC3).below b4)
    have B4 := hide ((unhide B3).trans (b4.mono (unhide B3).size))
    have SW4 := hide ((unhide SW3).below b4)
    have L4 := hide b4.size
    have LT4 := hide (unhide MC4).lt
    clear b4 MC3 SW3 c0 c1 c2 c3 c4
    go_wp2_with fail
    -- the program
    refine (unhide HIM w4).mono ?_
    rintro e w5 ⟨g0, rfl, o5, b5⟩
    have MC5 := hide ((unhide MC4).below b5)
    have B5 := hide ((unhide B4).trans (b5.mono (unhide B4).size))
    have SW5 := hide ((unhide SW4).below b5)
    have SG5 := hide o5.within
    clear b5 o5 MC4 SW4
    go_wp2_with fail
    refine (eq16 g0 gw L w5 (unhide SG5).bytes (unhide SW5).bytes (unhide hLn)).mono ?_
    rintro e w6 ⟨rfl, k6, rfl⟩
    have b6 := below_drewN (Below.refl w5.heap.size w5) k6
    have MC6 := hide ((unhide MC5).below b6)
    have B6 := hide ((unhide B5).trans (b6.mono (unhide B5).size))
    have SW6 := hide ((unhide SW5).below b6)
    have SG6 := hide ((unhide SG5).below b6)
    generalize w5.drewN k6 = w6 at *
    clear b6 MC5 SW5 SG5
    go_wp2_with fail
    -- the answer is marked
    refine (mark17 _ g0 L w6 (unhide SG6).ownB (unhide hLn)).mono ?_
    rintro e w7 ⟨rfl, o7, t7⟩
    have B7 := hide (below_touch (unhide B6) t7 (unhide SG6).lies (unhide B4).size)
    have MC7 := hide ((unhide MC6).touch t7 (unhide SG6).lies (unhide LT4))
    have SW7 := hide ((unhide SW6).touch t7 (unhide SG6).lies (.inl (unhide L4)))
    have SM7 := hide o7.within
    clear t7 o7 SW6 SG6 MC6
    go_wp2_with fail
    refine (held18 g0 L.length w7 (unhide SM7).bytes (unhide hLn)).mono ?_
    rintro e w8 ⟨rfl, rfl⟩
    obtain ⟨_, c0, c1, c2, c3, c4⟩ := unhide MC7
    go_wp2_with fail
    -- another call
    refine (unhide HTO w8).mono ?_
    rintro e w9 ⟨rfl, b9⟩
    have B9 := hide ((unhide B7).trans (b9.mono (unhide B7).size))
    have SW9 := hide ((unhide SW7).below b9)
    have SM9 := hide ((unhide SM7).below b9)
    clear b9 SW7 SM7 MC7 c0 c1 c2 c3 c4
    go_wp2_with fail
    refine (unhide HIM w9).mono ?_
    rintro e w10 ⟨h10, rfl, o10, b10⟩
    have B10 := hide ((unhide B9).trans (b10.mono (unhide B9).size))
    have SW10 := hide ((unhide SW9).below b10)
    have SM10 := hide ((unhide SM9).below b10)
    have SH10 := hide o10.bytes
    clear o10 b10 SW9 SM9
    go_wp2_with fail
    refine (eq16 h10 gw L w10 (unhide SH10) (unhide SW10).bytes (unhide hLn)).mono ?_
    rintro e w11 ⟨rfl, k11, rfl⟩
    have b11 := below_drewN (Below.refl w10.heap.size w10) k11
    have B11 := hide ((unhide B10).trans (b11.mono (unhide B10).size))
    have SM11 := hide ((unhide SM10).below b11)
    generalize w10.drewN k11 = w11 at *
    clear b11 SW10 SM10 SH10
    go_wp2_with fail
    refine (held18 g0 L.length w11 (unhide SM11).bytes (unhide hLn)).mono ?_
    rintro e w12 ⟨rfl, rfl⟩
    go_wp2
    go_ret
    exact ⟨rfl, unhide B11⟩
end Go.Proofs.Ytgdohkemamlnhaa
