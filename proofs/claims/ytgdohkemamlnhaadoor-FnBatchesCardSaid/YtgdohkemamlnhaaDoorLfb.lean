/- The law of batches, walked. -/
import Derived.Test.YtgdohkemamlnhaaDoorItm
import Derived.Test.YtgdohkemamlnhaaDoorBtp
import Derived.Test.YtgdohkemamlnhaaDoorLrb
import Derived.Test.YtgdohkemamlnhaaDoorAt
namespace Go.Proofs.YtgdohkemamlnhaaDoor
open Go.RowKit
set_option maxHeartbeats 4000000
set_option maxRecDepth 20000
theorem same26 (a b : Value) (ts : List ByteArray) (w : World) (ha : strsV w a ts) (hb : strsV w b ts) (hn : ts.length ≤ 2097152) :
    Calls Tryd.prog 26 #[a, b] w fun e w' => e = .returned (.bool true) ∧ ∃ k, w' = w.drewN k := by
  obtain ⟨A, ca, rfl, hc⟩ := ha
  obtain ⟨A2, cb, rfl, hd⟩ := hb
  have HC := hide hc
  have HD := hide hd
  obtain ⟨n, hnx⟩ : ∃ n, n = ts.length := ⟨_, rfl⟩
  rw [← hnx] at hn HC HD ⊢
  clear hc hd hnx
  go_enter Tryd.func26, Tryd.ntmps26
  go_wp2
  go_loopw [5] (fun i wr => ∃ j k : Nat, j ≤ n ∧ i = .int .i64 j ∧ wr = w.drewN k) (fun i _ => n - (intOf i).toNat)
  case atStart => exact ⟨0, 0, by omega, rfl, rfl⟩
  case round =>
    obtain ⟨j, k, hj, rfl, rfl⟩ := hrel
    by_cases hlt : j < n
    · obtain ⟨b1, o1, hA, _, hc1⟩ := unhide HC (by omega)
      obtain ⟨b2, o2, hA2, _, hc2⟩ := unhide HD (by omega)
      subst hA hA2
      have q1 : (j : Int) < (n : Int) := by omega
      have q0 : (0 : Int) ≤ (j : Int) := by omega
      have p1 : ∀ k, (w.drewN k).cell? ⟨b1, o1 + j, none⟩ = some (.string (ts.getD j noS)) := fun k => hc1 j hlt
      have p2 : ∀ k, (w.drewN k).cell? ⟨b2, o2 + j, none⟩ = some (.string (ts.getD j noS)) := fun k => hc2 j hlt
      have HJ := hide hlt
      clear hc1 hc2 hlt hj
      generalize ts.getD j noS = xj at *
      go_wp2
      go_quiet (fail)
      rw [show (w.drewN k).drewN nq = w.drewN (k + nq) by simp [World.drewN, Nat.add_assoc]]
      go_wp2
      go_roundw
      case rel => exact ⟨j + 1, _, unhide HJ, by go_num, rfl⟩
      case measure => have := unhide HJ; simp [intOf]; omega
    · obtain rfl : j = n := by omega
      clear hlt
      go_wp2
      go_ret
      exact ⟨rfl, k, rfl⟩
theorem law_fb_at (A B : Option Addr) (n m cn cm : Nat) (w : World) (hA : codeAt w A n) (hB : codeAt w B m) (hg : w.cell? ⟨0, 0, none⟩ = some (.iface 108 (.agg #[.pointer (some ⟨1, 72, none⟩)]))) :
    Calls Tryd.prog 6 #[.slice A n cn, .slice B m cm] w fun e w' => e = .returned (.bool true) ∧ Below w.heap.size w w' := by
  have h0 : 0 < w.heap.size := by
    rcases Nat.eq_zero_or_pos w.heap.size with h0 | h
    · simp [World.cell?, h0] at hg
    · exact h
  by_cases hn : 1048576 < n
  · have q : (1048576 : Int) < (n : Int) := by omega
    clear hn
    go_enter Tryd.func6, Tryd.ntmps6
    go_wp2
    go_ret
    exact ⟨rfl, Below.refl _ _⟩
  by_cases hm : 1048576 < m
  · have q : (n : Int) ≤ 1048576 := by omega
    have q' : (1048576 : Int) < (m : Int) := by omega
    clear hn hm
    go_enter Tryd.func6, Tryd.ntmps6
    go_wp2
    go_ret
    exact ⟨rfl, Below.refl _ _⟩
  have q : (n : Int) ≤ 1048576 := by omega
  have q' : (m : Int) ≤ 1048576 := by omega
  have HOF := hide fun W (hb : Below w.heap.size w W) => itemsOf23 A n cn W (by unfold maxLen; omega) (codeAt_below hA hb)
  have hat0 : Hid (∀ W, Below w.heap.size w W → Calls Tryd.prog 22 #[.slice B m cm, .int .i64 0, .int .i64 1000] W fun e w' => ∃ v : Nat, e = .returned (.int .i64 v) ∧ v < 1000 ∧ Below W.heap.size W w') := hide fun W hb => at_any W B m cm 0 1000 (by omega) (by omega) (by omega) (by omega) (codeAt_below hB hb)
  have hat1 : Hid (∀ W, Below w.heap.size w W → Calls Tryd.prog 22 #[.slice B m cm, .int .i64 1, .int .i64 200] W fun e w' => ∃ v : Nat, e = .returned (.int .i64 v) ∧ v < 200 ∧ Below W.heap.size W w') := hide fun W hb => at_any W B m cm 1 200 (by omega) (by omega) (by omega) (by omega) (codeAt_below hB hb)
  have HRD : Hid (∀ u xs W, Below w.heap.size w W → bytesC W u xs → Calls Tryd.prog 13 #[u] W fun e w' => ∃ u', e = .returned (.tuple #[btV (spB xs).1.1 (spB xs).1.2.1 u', .int .i64 (spB xs).2]) ∧ ownS W.heap.size w'.heap.size w' u' (spB xs).1.2.2 ∧ Below W.heap.size W w') := hide fun u xs W hb hu => read_spB u xs W hu ((cellB hb h0).trans hg)
  clear hA hB hg h0 hn hm
  go_enter Tryd.func6, Tryd.ntmps6
  go_wp2_with fail
  refine (unhide hat0 w (Below.refl _ _)).mono ?_
  rintro e w1 ⟨r, rfl, hr, b1⟩
  have B1 := hide b1
  have HR := hide hr
  clear b1 hr hat0
  go_wp2_with fail
  refine (unhide hat1 w1 (unhide B1)).mono ?_
  rintro e w2 ⟨l, rfl, hl, b2⟩
  have B2 := hide (bl_st b2 (unhide B1))
  have HL := hide hl
  clear b2 hl hat1 B1
  go_wp2_with fail
  refine (unhide HOF w2 (unhide B2)).mono ?_
  rintro e w3 ⟨u, ts, z, rfl, ou, hts, hz, haz, b3⟩
  obtain ⟨Au, nu, cu, rfl⟩ : ∃ A' n' cap', u = .slice A' n' cap' := by
    obtain ⟨A', cap', e, _⟩ := ou.strs
    exact ⟨_, _, _, e⟩
  have ok : okB (r : Int) (l : Int) ts = true := okB_of (by have := unhide HR; omega) (by have := unhide HL; omega) (by omega) (show z ≤ 400 by omega) haz
  have B3 := hide (bl_al (o := .cells #[.int .i64 (r : Int), .int .i64 (l : Int), .slice Au nu cu] 33) (bl_st b3 (unhide B2)))
  have U3 := hide (ou.strs.below (bl_al (o := .cells #[.int .i64 (r : Int), .int .i64 (l : Int), .slice Au nu cu] 33) (Below.refl _ _)))
  have P3 := hide (bc_new w3 (r : Int) (l : Int) (.slice Au nu cu) 33)
  have hsz : ∀ t ∈ ts, t.size ≤ maxLen := fun t ht => by rw [haz t ht]; unfold maxLen; omega
  have HIM := hide fun W (hu : strsV W (.slice Au nu cu) ts) => bbI (r : Int) (l : Int) (.slice Au nu cu) ts W hu hsz (by omega)
  have HSP := hide fun W (hu : strsV W (.slice Au nu cu) ts) => bb16 (r : Int) (l : Int) (.slice Au nu cu) ts W hu hsz (by omega)
  have eL : btL (r : Int) (l : Int) ts = bB (r : Int) (l : Int) ts := by unfold btL; rw [if_pos ok]
  have eC : btC (r : Int) (l : Int) ts = 0 := by unfold btC; rw [if_pos ok]
  rw [eL, eC] at HIM HSP
  have HBK := hide (backB ok)
  have HT := hide (show ts.length ≤ 2097152 by omega)
  clear b3 ou hts hz haz ok hsz eL eC B2 HOF
  generalize bB (r : Int) (l : Int) ts = M at *
  generalize (r : Int) = ri at *
  generalize (l : Int) = li at *
  obtain ⟨_, c0, c1, c2⟩ := unhide P3
  go_wp2_with fail
  generalize w3.alloc (.cells #[.int .i64 ri, .int .i64 li, .slice Au nu cu] 33) = w3' at *
  generalize w3.heap.size = px at *
  refine (unhide HIM w3' (unhide U3)).mono ?_
  rintro e w4 ⟨b, rfl, o4, b4⟩
  have B4 := hide (bl_st b4 (unhide B3))
  have U4 := hide ((unhide U3).below b4)
  have P4 := hide ((unhide P3).below b4)
  have O4 := hide o4
  clear b4 o4 B3 U3 P3 c0 c1 c2 HIM
  obtain ⟨_, c0, c1, c2⟩ := unhide P4
  go_wp2_with fail
  refine (unhide HSP w4 (unhide U4)).mono ?_
  rintro e w5 ⟨bw, rfl, o5, b5⟩
  have B5 := hide (bl_st b5 (unhide B4))
  have U5 := hide ((unhide U4).below b5)
  have P5 := hide ((unhide P4).below b5)
  have O5 := hide ((unhide O4).below b5)
  have V5 := hide o5
  clear b5 o5 B4 U4 P4 O4 c0 c1 c2 HSP
  go_wp2_with fail
  have hrd := unhide HRD b M w5 (unhide B5) (unhide O5).bytesC
  rw [unhide HBK] at hrd
  dsimp only at hrd
  refine hrd.mono ?_
  rintro e w6 ⟨uy, rfl, o6, b6⟩
  obtain ⟨Ay, ny, cy, rfl⟩ : ∃ A' n' cap', uy = .slice A' n' cap' := by
    obtain ⟨A', cap', e, _⟩ := o6.strs
    exact ⟨_, _, _, e⟩
  have b6' : Below w5.heap.size w5 (w6.alloc (.cells #[.int .i64 ri, .int .i64 li, .slice Ay ny cy] 33)) := bl_al b6
  have B6 := hide (bl_st b6' (unhide B5))
  have U6 := hide ((unhide U5).below b6')
  have P6 := hide ((unhide P5).below b6')
  have cvB := ((unhide O5).below b6').conv
  have cvW := ((unhide V5).below b6').conv
  have Y6 := hide (o6.strs.below (bl_al (o := .cells #[.int .i64 ri, .int .i64 li, .slice Ay ny cy] 33) (Below.refl _ _)))
  have Q6 := hide (bc_new w6 ri li (.slice Ay ny cy) 33)
  clear b6 b6' o6 B5 U5 P5 O5 V5 hrd
  obtain ⟨_, c0, c1, c2⟩ := unhide P6
  obtain ⟨_, d0, d1, d2⟩ := unhide Q6
  go_wp2_with fail
  refine (same26 _ _ ts _ (unhide Y6) (unhide U6) (unhide HT)).mono ?_
  rintro e w7 ⟨rfl, k7, rfl⟩
  go_wp2
  go_ret
  exact ⟨rfl, below_drewN (unhide B6) k7⟩
end Go.Proofs.YtgdohkemamlnhaaDoor
