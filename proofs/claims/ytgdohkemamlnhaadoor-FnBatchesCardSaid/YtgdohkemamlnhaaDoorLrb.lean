/- The law of ReadBatch, walked. -/
import Derived.Test.YtgdohkemamlnhaaDoorSb
import Derived.Test.YtgdohkemamlnhaaDoorAgb
import Derived.Test.YtgdohkemamlnhaaDoorHeld
namespace Go.Proofs.YtgdohkemamlnhaaDoor
open Go.RowKit
set_option maxHeartbeats 4000000
set_option maxRecDepth 20000
theorem spB_len (xs : List Int) : (spB xs).1.2.2.length ≤ 64 := by
  unfold spB
  split
  · exact Nat.zero_le _
  · split
    · rename_i h
      rw [sI_len]
      exact h.2.1.1
    · exact Nat.zero_le _
theorem read_spB (u : Value) (xs : List Int) (W : World) (hu : bytesC W u xs) (hg : W.cell? ⟨0, 0, none⟩ = some (.iface 108 (.agg #[.pointer (some ⟨1, 72, none⟩)]))) :
    Calls Tryd.prog 13 #[u] W fun e w' => ∃ u', e = .returned (.tuple #[btV (spB xs).1.1 (spB xs).1.2.1 u', .int .i64 (spB xs).2]) ∧ ownS W.heap.size w'.heap.size w' u' (spB xs).1.2.2 ∧ Below W.heap.size W w' := by
  have hB : isB xs := by obtain ⟨_, _, _, _, h, _⟩ := hu; exact h
  obtain ⟨e1, e2⟩ := agreeB hB
  rw [← e1, ← e2]
  exact read13 u xs W hu hg
theorem law_rb_at (w : World) (v : Value) (xs : List Int) (hv : bytesV w v xs) (hg : w.cell? ⟨0, 0, none⟩ = some (.iface 108 (.agg #[.pointer (some ⟨1, 72, none⟩)]))) :
    Calls Tryd.prog 4 #[v] w fun e w' => e = .returned (.bool true) ∧ Below w.heap.size w w' := by
  have h0 : 0 < w.heap.size := by
    rcases Nat.eq_zero_or_pos w.heap.size with h0 | h
    · simp [World.cell?, h0] at hg
    · exact h
  by_cases hl : 1048576 < xs.length
  · obtain ⟨A, cap, rfl, _, _⟩ := hv
    have q : (1048576 : Int) < (xs.length : Int) := by omega
    clear hl
    go_enter Tryd.func4, Tryd.ntmps4
    go_wp2
    go_ret
    exact ⟨rfl, Below.refl _ _⟩
  · have hn : xs.length ≤ 2097152 := by omega
    have q : (xs.length : Int) ≤ 1048576 := by omega
    have HCP := hide fun W (hb : Below w.heap.size w W) => copyS v xs W (hv.below hb) hn
    have HIM : Hid (∀ u W, Below w.heap.size w W → bytesC W u xs → Calls Tryd.prog 13 #[u] W fun e w' => ∃ u', e = .returned (.tuple #[btV (spB xs).1.1 (spB xs).1.2.1 u', .int .i64 (spB xs).2]) ∧ ownS W.heap.size w'.heap.size w' u' (spB xs).1.2.2 ∧ Below W.heap.size W w') := hide fun u W hb hu => read_spB u xs W hu ((cellB hb h0).trans hg)
    have HSP := hide fun u W (hu : bytesC W u xs) => rb12 u xs W hu
    have HTL := hide (show (spB xs).1.2.2.length ≤ 2097152 by have := spB_len xs; omega)
    have HN := hide hn
    generalize (spB xs).1.2.2 = ts at *
    generalize (spB xs).1.2.1 = l at *
    generalize (spB xs).1.1 = r at *
    generalize (spB xs).2 = C at *
    obtain ⟨A, cap, rfl, _, _⟩ := hv
    have x0' : (0 : Int) ≤ (xs.length : Int) := by omega
    have t0' : (0 : Int) ≤ (ts.length : Int) := by omega
    clear hg hl hn h0
    go_enter Tryd.func4, Tryd.ntmps4
    go_wp2_with fail
    refine (unhide HCP w (Below.refl _ _)).mono ?_
    rintro e w1 ⟨u1, rfl, o1, b1⟩
    have B1 := hide b1
    have U1 := hide o1
    clear b1 o1
    go_wp2_with fail
    refine (unhide HSP u1 w1 (unhide U1).bytesC).mono ?_
    rintro e w2 ⟨uw, rfl, o2, b2⟩
    obtain ⟨Aw, nw, cw, rfl⟩ : ∃ A' n' cap', uw = .slice A' n' cap' := by
      obtain ⟨A', cap', e, _⟩ := o2.strs
      exact ⟨_, _, _, e⟩
    have B2 := hide (bl_al (o := .cells #[.int .i64 r, .int .i64 l, .slice Aw nw cw] 33) (bl_st b2 (unhide B1)))
    have UW2 := hide (o2.below (bl_al (o := .cells #[.int .i64 r, .int .i64 l, .slice Aw nw cw] 33) (Below.refl _ _)))
    have PW2 := hide (bc_new w2 r l (.slice Aw nw cw) 33)
    have S2 := hide (show w2.heap.size + 1 = (w2.alloc (.cells #[.int .i64 r, .int .i64 l, .slice Aw nw cw] 33)).heap.size by simp)
    have L1 := hide (unhide B1).size
    have L2 := hide (Nat.le_trans (unhide B1).size b2.size)
    clear b2 o2 U1 B1
    go_wp2_with fail
    generalize w2.alloc (.cells #[.int .i64 r, .int .i64 l, .slice Aw nw cw] 33) = w2' at *
    generalize w2.heap.size = pw at *
    refine (unhide HCP w2' (unhide B2)).mono ?_
    rintro e w3 ⟨x0, rfl, o3, b3⟩
    have B3 := hide (bl_st b3 (unhide B2))
    have X3 := hide o3.within
    have UW3 := hide ((unhide UW2).below b3)
    have PW3 := hide ((unhide PW2).below b3)
    have L3 := hide b3.size
    clear b3 o3 B2 UW2 PW2
    go_wp2_with fail
    refine (unhide HIM x0 w3 (unhide B3) (unhide X3).ownB.bytesC).mono ?_
    rintro e w4 ⟨ug, rfl, o4, b4⟩
    obtain ⟨Ag, ng, cg, rfl⟩ : ∃ A' n' cap', ug = .slice A' n' cap' := by
      obtain ⟨A', cap', e, _⟩ := o4.strs
      exact ⟨_, _, _, e⟩
    have b4' : Below w3.heap.size w3 (w4.alloc (.cells #[.int .i64 r, .int .i64 l, .slice Ag ng cg] 33)) := bl_al b4
    have B4 := hide (bl_st b4' (unhide B3))
    have X4 := hide ((unhide X3).below b4')
    have UW4 := hide ((unhide UW3).below b4')
    have PW4 := hide ((unhide PW3).below b4')
    have UG4 := hide (o4.below (bl_al (o := .cells #[.int .i64 r, .int .i64 l, .slice Ag ng cg] 33) (Below.refl _ _)))
    have PG4 := hide (bc_new w4 r l (.slice Ag ng cg) 33)
    have L4 := hide b4.size
    have LB3 := hide (unhide B3).size
    clear b4 b4' o4 B3 X3 UW3 PW3
    obtain ⟨_, c0, c1, c2⟩ := unhide PW4
    obtain ⟨_, d0, d1, d2⟩ := unhide PG4
    go_wp2_with fail
    clear c0 c1 c2 d0 d1 d2
    generalize w4.alloc (.cells #[.int .i64 r, .int .i64 l, .slice Ag ng cg] 33) = w4' at *
    generalize w4.heap.size = pg at *
    refine (eq19 r l _ _ ts w4' (unhide UG4).strs (unhide UW4).strs (unhide HTL)).mono ?_
    rintro e w5 ⟨rfl, b5⟩
    have B5 := hide (bl_st b5 (unhide B4))
    have X5 := hide ((unhide X4).below b5)
    have UW5 := hide ((unhide UW4).below b5)
    have PW5 := hide ((unhide PW4).below b5)
    have UG5 := hide ((unhide UG4).below b5)
    have PG5 := hide ((unhide PG4).below b5)
    clear b5 B4 X4 UW4 PW4 UG4 PG4
    go_wp2_with fail
    refine (unhide HCP w5 (unhide B5)).mono ?_
    rintro e w6 ⟨u6, rfl, o6, b6⟩
    have B6 := hide (bl_st b6 (unhide B5))
    have X6 := hide ((unhide X5).below b6)
    have UW6 := hide ((unhide UW5).below b6)
    have PW6 := hide ((unhide PW5).below b6)
    have UG6 := hide ((unhide UG5).below b6)
    have PG6 := hide ((unhide PG5).below b6)
    have V6 := hide o6.bytes
    clear b6 o6 B5 X5 UW5 PW5 UG5 PG5
    go_wp2_with fail
    refine (eq16 x0 u6 xs w6 (unhide X6).bytes (unhide V6) (unhide HN)).mono ?_
    rintro e w7 ⟨rfl, k7, rfl⟩
    have b7 := below_drewN (Below.refl w6.heap.size w6) k7
    have B7 := hide (bl_st b7 (unhide B6))
    have X7 := hide ((unhide X6).below b7)
    have UW7 := hide ((unhide UW6).below b7)
    have PW7 := hide ((unhide PW6).below b7)
    have UG7 := hide ((unhide UG6).below b7)
    have PG7 := hide ((unhide PG6).below b7)
    generalize w6.drewN k7 = w7 at *
    clear b7 B6 X6 UW6 PW6 UG6 PG6 V6
    go_wp2_with fail
    -- the argument is marked
    refine (mark17 _ x0 xs w7 (unhide X7).ownB (unhide HN)).mono ?_
    rintro e w8 ⟨rfl, _, t8⟩
    have s2 := unhide S2
    have B8 := hide (below_touch (unhide B7) t8 (unhide X7).lies (by have := unhide L2; omega))
    have UW8 := hide ((unhide UW7).touch t8 (unhide X7).lies (.inl (by omega)))
    have PW8 := hide ((unhide PW7).touch t8 (unhide X7).lies (.inl (by omega)))
    have UG8 := hide ((unhide UG7).touch t8 (unhide X7).lies (.inr (Nat.le_refl _)))
    have PG8 := hide ((unhide PG7).touch t8 (unhide X7).lies (.inr (unhide L4)))
    clear t8 s2 B7 X7 UW7 PW7 UG7 PG7
    obtain ⟨_, c0, c1, c2⟩ := unhide PW8
    obtain ⟨_, d0, d1, d2⟩ := unhide PG8
    go_wp2_with fail
    clear c0 c1 c2 d0 d1 d2
    refine (eq19 r l _ _ ts w8 (unhide UG8).strs (unhide UW8).strs (unhide HTL)).mono ?_
    rintro e w9 ⟨rfl, b9⟩
    have B9 := hide (bl_st b9 (unhide B8))
    have UW9 := hide ((unhide UW8).below b9)
    have PW9 := hide ((unhide PW8).below b9)
    have UG9 := hide ((unhide UG8).below b9)
    have PG9 := hide ((unhide PG8).below b9)
    clear b9 B8 UW8 PW8 UG8 PG8
    obtain ⟨_, d0, d1, d2⟩ := unhide PG9
    go_wp2_with fail
    clear d0 d1 d2
    -- the answer is marked
    refine (mark20 _ _ r l _ ts w9 (unhide UG9) (unhide HTL)).mono ?_
    rintro e w10 ⟨rfl, o10, t10⟩
    have s2 := unhide S2
    have l3 := unhide L3
    have B10 := hide (belowS (unhide B9) t10 (unhide UG9).lies (unhide LB3) (unhide B9).size)
    have UW10 := hide ((unhide UW9).touchS t10 (unhide UG9).lies (.inl (by omega)))
    have PW10 := hide ((unhide PW9).touchS t10 (unhide UG9).lies (.inl (by omega)))
    have PG10 := hide ((unhide PG9).touchS t10 (unhide UG9).lies (.inr (Nat.le_refl _)))
    have UM10 := hide o10
    clear t10 o10 s2 l3 B9 UW9 PW9 UG9 PG9
    obtain ⟨_, d0, d1, d2⟩ := unhide PG10
    go_wp2_with fail
    clear d0 d1 d2
    refine (held17 r l _ ts.length w10 (unhide UM10).strs (unhide HTL)).mono ?_
    rintro e w11 ⟨rfl, b11⟩
    have B11 := hide (bl_st b11 (unhide B10))
    have UW11 := hide ((unhide UW10).below b11)
    have PW11 := hide ((unhide PW10).below b11)
    have PG11 := hide ((unhide PG10).below b11)
    have UM11 := hide ((unhide UM10).below b11)
    clear b11 B10 UW10 PW10 PG10 UM10
    go_wp2_with fail
    -- another call
    refine (unhide HCP w11 (unhide B11)).mono ?_
    rintro e w12 ⟨u12, rfl, o12, b12⟩
    have B12 := hide (bl_st b12 (unhide B11))
    have UW12 := hide ((unhide UW11).below b12)
    have PW12 := hide ((unhide PW11).below b12)
    have PG12 := hide ((unhide PG11).below b12)
    have UM12 := hide ((unhide UM11).below b12)
    have V12 := hide o12.bytesC
    clear b12 o12 B11 UW11 PW11 PG11 UM11
    go_wp2_with fail
    refine (unhide HIM u12 w12 (unhide B12) (unhide V12)).mono ?_
    rintro e w13 ⟨uh, rfl, o13, b13⟩
    obtain ⟨Ah, nh, ch, rfl⟩ : ∃ A' n' cap', uh = .slice A' n' cap' := by
      obtain ⟨A', cap', e, _⟩ := o13.strs
      exact ⟨_, _, _, e⟩
    have b13' : Below w12.heap.size w12 (w13.alloc (.cells #[.int .i64 r, .int .i64 l, .slice Ah nh ch] 33)) := bl_al b13
    have B13 := hide (bl_st b13' (unhide B12))
    have UW13 := hide ((unhide UW12).below b13')
    have PW13 := hide ((unhide PW12).below b13')
    have PG13 := hide ((unhide PG12).below b13')
    have UM13 := hide ((unhide UM12).below b13')
    have UH13 := hide (o13.strs.below (bl_al (o := .cells #[.int .i64 r, .int .i64 l, .slice Ah nh ch] 33) (Below.refl _ _)))
    have PH13 := hide (bc_new w13 r l (.slice Ah nh ch) 33)
    clear b13 b13' o13 B12 UW12 PW12 PG12 UM12 V12
    obtain ⟨_, c0, c1, c2⟩ := unhide PW13
    obtain ⟨_, d0, d1, d2⟩ := unhide PH13
    go_wp2_with fail
    clear c0 c1 c2 d0 d1 d2
    generalize w13.alloc (.cells #[.int .i64 r, .int .i64 l, .slice Ah nh ch] 33) = w13' at *
    refine (eq19 r l _ _ ts w13' (unhide UH13) (unhide UW13).strs (unhide HTL)).mono ?_
    rintro e w14 ⟨rfl, b14⟩
    have B14 := hide (bl_st b14 (unhide B13))
    have PG14 := hide ((unhide PG13).below b14)
    have UM14 := hide ((unhide UM13).below b14)
    clear b14 B13 UW13 PW13 PG13 UM13 UH13 PH13
    obtain ⟨_, d0, d1, d2⟩ := unhide PG14
    go_wp2_with fail
    clear d0 d1 d2
    refine (held17 r l _ ts.length w14 (unhide UM14).strs (unhide HTL)).mono ?_
    rintro e w15 ⟨rfl, b15⟩
    have B15 := hide (bl_st b15 (unhide B14))
    clear b15
    go_wp2
    go_ret
    exact ⟨rfl, unhide B15⟩
end Go.Proofs.YtgdohkemamlnhaaDoor
