/- The law of ReadMessage, walked. -/
import Derived.Test.YtgdohkemamlnhaaDoorRt
namespace Go.Proofs.YtgdohkemamlnhaaDoor
open Go.RowKit
set_option maxHeartbeats 4000000
set_option maxRecDepth 20000
theorem spM_shape (xs : List Int) : ∃ r s a d t, (spM xs).1 = msgV r s a d t := by
  unfold spM
  split
  · exact ⟨_, _, _, _, _, rfl⟩
  · split
    · exact ⟨_, _, _, _, _, rfl⟩
    · exact ⟨_, _, _, _, _, rfl⟩
theorem law_rm_at (w : World) (v : Value) (xs : List Int) (hv : bytesV w v xs) (hg : w.cell? ⟨0, 0, none⟩ = some (.iface 108 (.agg #[.pointer (some ⟨1, 72, none⟩)]))) :
    Calls Tryd.prog 3 #[v] w fun e w' => e = .returned (.bool true) ∧ Below w.heap.size w w' := by
  have h0 : 0 < w.heap.size := by
    rcases Nat.eq_zero_or_pos w.heap.size with h0 | h
    · simp [World.cell?, h0] at hg
    · exact h
  by_cases hl : 1048576 < xs.length
  · obtain ⟨A, cap, rfl, _, _⟩ := hv
    have q : (1048576 : Int) < (xs.length : Int) := by omega
    clear hl
    go_enter Tryd.func3, Tryd.ntmps3
    go_wp2
    go_ret
    exact ⟨rfl, Below.refl _ _⟩
  · have hn : xs.length ≤ 2097152 := by omega
    have q : (xs.length : Int) ≤ 1048576 := by omega
    have hB : isB xs := by obtain ⟨_, _, _, h, _⟩ := hv; exact h
    have HCP := hide fun W (hb : Below w.heap.size w W) => copyS v xs W (hv.below hb) hn
    have HIM : Hid (∀ u W, Below w.heap.size w W → bytesC W u xs → Calls Tryd.prog 9 #[u] W fun e w' => e = .returned (.tuple #[(spM xs).1, .int .i64 (spM xs).2]) ∧ Below W.heap.size W w') := hide fun u W hb hu => by
      obtain ⟨e1, e2⟩ := agree hB
      rw [← e1, ← e2]
      exact read9 u xs W hu ((cellB hb h0).trans hg)
    have HSP := hide fun u W (hu : bytesC W u xs) => rm7 u xs W hn hu
    have HN := hide hn
    obtain ⟨r, s, a, d, t, e⟩ := spM_shape xs
    rw [e] at HIM HSP
    generalize (spM xs).2 = C at *
    have HV := hide hv
    obtain ⟨A, cap, rfl, _, _⟩ := hv
    clear e hB hg hl hn h0
    go_enter Tryd.func3, Tryd.ntmps3
    go_wp2_with fail
    refine (unhide HCP w (Below.refl _ _)).mono ?_
    rintro e w1 ⟨u1, rfl, o1, b1⟩
    have B1 := hide b1
    have U1 := hide o1
    clear b1 o1
    go_wp2_with fail
    refine (unhide HSP u1 w1 (unhide U1).bytesC).mono ?_
    rintro e w2 ⟨rfl, b2⟩
    have B2 := hide (bl_al (o := (.cells #[.int .i64 r, .int .i64 s, .int .i64 a, .string d, .string t] 24)) ((unhide B1).trans (b2.mono (unhide B1).size)))
    have M2 := hide (mc_new w2 r s a d t 24)
    clear b2 U1 B1
    go_wp2_with fail
    generalize w2.alloc (.cells #[.int .i64 r, .int .i64 s, .int .i64 a, .string d, .string t] 24) = w2' at *
    generalize w2.heap.size = z at *
    refine (unhide HCP w2' (unhide B2)).mono ?_
    rintro e w3 ⟨u3, rfl, o3, b3⟩
    have B3 := hide ((unhide B2).trans (b3.mono (unhide B2).size))
    have U3 := hide o3
    have M3 := hide ((unhide M2).below b3)
    clear b3 o3 B2 M2
    go_wp2_with fail
    refine (unhide HIM u3 w3 (unhide B3) (unhide U3).bytesC).mono ?_
    rintro e w4 ⟨rfl, b4⟩
    have B4 := hide (bl_al (o := (.cells #[.int .i64 r, .int .i64 s, .int .i64 a, .string d, .string t] 24)) ((unhide B3).trans (b4.mono (unhide B3).size)))
    have U4 := hide (((unhide U3).below b4).below (bl_al (o := (.cells #[.int .i64 r, .int .i64 s, .int .i64 a, .string d, .string t] 24)) (Below.refl _ _)))
    have M4 := hide (((unhide M3).below b4).below (bl_al (o := (.cells #[.int .i64 r, .int .i64 s, .int .i64 a, .string d, .string t] 24)) (Below.refl _ _)))
    have N4 := hide (mc_new w4 r s a d t 24)
    clear b4 U3 B3 M3
    obtain ⟨_, c0, c1, c2, c3, c4⟩ := unhide M4
    obtain ⟨_, d0, d1, d2, d3, d4⟩ := unhide N4
    go_wp2_with fail
    clear c0 c1 c2 c3 c4 d0 d1 d2 d3 d4 M4 N4
    generalize w4.alloc (.cells #[.int .i64 r, .int .i64 s, .int .i64 a, .string d, .string t] 24) = w4' at *
    refine (eq18 r s a d t w4').mono ?_
    rintro e w5 ⟨rfl, b5⟩
    have B5 := hide ((unhide B4).trans (b5.mono (unhide B4).size))
    have U5 := hide ((unhide U4).below b5)
    clear b5 U4 B4
    go_wp2_with fail
    refine (unhide HCP w5 (unhide B5)).mono ?_
    rintro e w6 ⟨u6, rfl, o6, b6⟩
    have B6 := hide ((unhide B5).trans (b6.mono (unhide B5).size))
    have U6 := hide ((unhide U5).below b6)
    have V6 := hide o6
    clear b6 o6 U5 B5
    go_wp2_with fail
    refine (eq16 u3 u6 xs w6 (unhide U6).bytes (unhide V6).bytes (unhide HN)).mono ?_
    rintro e w7 ⟨rfl, k7, rfl⟩
    go_wp2
    go_ret
    exact ⟨rfl, below_drewN (unhide B6) k7⟩
end Go.Proofs.YtgdohkemamlnhaaDoor
