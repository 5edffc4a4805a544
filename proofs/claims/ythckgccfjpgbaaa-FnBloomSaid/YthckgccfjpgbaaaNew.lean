/- NewBloom, both sides. -/
import Derived.Test.YthckgccfjpgbaaaAds
namespace Go.Proofs.Ythckgccfjpgbaaa
open Go.RowKit
set_option maxHeartbeats 4000000
set_option maxRecDepth 20000
def newR (p wd : Int) (ss : List Slt) : Blm × Int :=
  if 4096 < ss.length then (noX, 2) else if shapeB p wd && saltsB p ss then (⟨p, wd, ss, List.replicate (ss.length * wd.toNat) false⟩, 0) else (noX, 4)
theorem newR_long {p wd : Int} {ss : List Slt} (h : 4096 < ss.length) : newR p wd ss = (noX, 2) := by unfold newR; rw [if_pos h]
theorem newR_bad {p wd : Int} {ss : List Slt} (h : ss.length ≤ 4096) (h2 : (shapeB p wd && saltsB p ss) = false) : newR p wd ss = (noX, 4) := by unfold newR; rw [if_neg (by omega), h2]; rfl
theorem newR_ok {p wd : Int} {ss : List Slt} (h : ss.length ≤ 4096) (h1 : shapeB p wd = true) (h2 : saltsB p ss = true) : newR p wd ss = (⟨p, wd, ss, List.replicate (ss.length * wd.toNat) false⟩, 0) := by unfold newR; rw [if_neg (by omega), h1, h2]; rfl
theorem bitsOf_false (W n : Nat) : bitsOf W n (fun _ _ => false) = List.replicate (n * W) false := by
  unfold bitsOf
  rw [List.map_const']
  simp
theorem ownsRow_below {w w' : World} {base : Nat} {e : TypeId} {size : Nat} {v : Value} {n : Nat} {xs : List Value} (h : w.ownsRow base e size v n xs) (hb : Below w.heap.size w w') : w'.ownsRow base e size v n xs := by
  refine ⟨h.1, ?_⟩
  rcases h.2 with h0 | ⟨g, cap, cur, hv, hb', hg, h1⟩
  · exact .inl h0
  · exact .inr ⟨g, cap, cur, hv, hb', (hb.block g (Array.getElem?_eq_some_iff.1 hg).1).trans hg, h1⟩
theorem new14 (p wd : Int) (v : Value) (ss : List Slt) (w : World) (hv : saltsV w v ss) (hn : ss.length ≤ 2097152) :
    Calls Try.prog 14 #[.int .i64 p, .int .i64 wd, v] w fun e w' => outX w (newR p wd ss).1 (newR p wd ss).2 e w' := by
  obtain ⟨A, ca, rfl⟩ := hv.slice
  have B0 : Below w.heap.size w (w.alloc (.cells #[.int .i64 0, .int .i64 0, .slice none 0 0, .slice none 0 0] 26)) := bl_al (Below.refl _ _)
  have N0 := hide (heap_alloc_new w (.cells #[.int .i64 0, .int .i64 0, .slice none 0 0, .slice none 0 0] 26))
  have HB := hide B0
  have HV := hide (hv.below B0)
  have e0 : Hid ((w.alloc (.cells #[.int .i64 0, .int .i64 0, .slice none 0 0, .slice none 0 0] 26)).heap.size = w.heap.size + 1) := hide (by simp)
  have n0 : (0 : Int) ≤ (ss.length : Int) := by omega
  have n1 : (ss.length : Int) ≤ 2097152 := by omega
  have C := bc_new (w.alloc (.cells #[.int .i64 0, .int .i64 0, .slice none 0 0, .slice none 0 0] 26)) p wd (.slice A ss.length ca) (.slice none 0 0) 26
  have BA : Below (w.alloc (.cells #[.int .i64 0, .int .i64 0, .slice none 0 0, .slice none 0 0] 26)).heap.size (w.alloc (.cells #[.int .i64 0, .int .i64 0, .slice none 0 0, .slice none 0 0] 26)) ((w.alloc (.cells #[.int .i64 0, .int .i64 0, .slice none 0 0, .slice none 0 0] 26)).alloc (.cells #[.int .i64 p, .int .i64 wd, .slice A ss.length ca, .slice none 0 0] 26)) := bl_al (Below.refl _ _)
  rw [unhide e0] at C
  have K1 := hide (long45 (.slice A ss.length ca) ss (w.alloc (.cells #[.int .i64 0, .int .i64 0, .slice none 0 0, .slice none 0 0] 26)) (hv.below B0) hn)
  have K2 := hide (sizes46 (w.heap.size + 1) p wd _ _ _ C)
  have K3 := hide (fun k => salts47 (w.heap.size + 1) p wd _ _ ss _ (C.below (below_drewN (Below.refl _ _) k)) (((hv.below B0).below BA).below (below_drewN (Below.refl _ _) k)) hn)
  have HC := hide C
  have HB1 := hide (bl_st BA B0)
  have N1 := hide ((BA.block w.heap.size (by simp)).trans (unhide N0))
  have V1 := hide ((hv.below B0).below BA)
  have E1 : Hid (((w.alloc (.cells #[.int .i64 0, .int .i64 0, .slice none 0 0, .slice none 0 0] 26)).alloc (.cells #[.int .i64 p, .int .i64 wd, .slice A ss.length ca, .slice none 0 0] 26)).heap.size = w.heap.size + 1 + 1) := hide (by simp)
  clear hv C
  by_cases h4 : 4096 < ss.length
  · have HE := hide (newR_long (p := p) (wd := wd) h4)
    have q : (4096 : Int) < (ss.length : Int) := by omega
    rw [decide_eq_true q] at K1
    clear BA B0 h4 K2 K3
    go_enter Try.func14, Try.ntmps14
    go_wp2_with fail
    refine (unhide K1).mono ?_
    rintro e w1 ⟨rfl, rfl⟩
    go_wp2
    rw [unhide HE]
    exact bodyPost_ret (results_tmp_row rfl _ _ w.heap.size 26 _ (0, 0) _ _ rfl rfl (unhide N0) Try.underlying26 rfl (by kernel_rfl)) rfl ⟨_, rfl, own_noX _ _ _, unhide HB⟩
  have q : (ss.length : Int) ≤ 4096 := by omega
  rw [decide_eq_false (show ¬ (4096 : Int) < (ss.length : Int) by omega)] at K1
  have HE1 := hide (fun h => newR_bad (p := p) (wd := wd) (show ss.length ≤ 4096 by omega) h)
  have HE2 := hide (fun h1 h2 => newR_ok (p := p) (wd := wd) (show ss.length ≤ 4096 by omega) h1 h2)
  have HIN := hide (fun h => shapeB_in (p := p) (w := wd) h)
  have HLE := hide (fun h => saltsB_len (p := p) (ss := ss) h)
  clear BA B0 h4 hn
  have HS : Hid (∃ u, shapeB p wd = u) := ⟨_, rfl⟩
  generalize h1 : shapeB p wd = u1 at *
  generalize h2 : saltsB p ss = u2 at *
  generalize newR p wd ss = rr at *
  clear h1 h2 HS
  cases u1
  · have HE := hide (unhide HE1 rfl)
    go_enter Try.func14, Try.ntmps14
    go_wp2_with fail
    refine (unhide K1).mono ?_
    rintro e w1 ⟨rfl, rfl⟩
    go_wp2_with fail
    generalize (w.alloc (.cells #[.int .i64 0, .int .i64 0, .slice none 0 0, .slice none 0 0] 26)).alloc (.cells #[.int .i64 p, .int .i64 wd, .slice A ss.length ca, .slice none 0 0] 26) = w2 at *
    refine (unhide K2).mono ?_
    rintro e w3 ⟨rfl, k, rfl⟩
    have n1 : (w2.drewN k).heap[w.heap.size]? = some (.cells #[.int .i64 0, .int .i64 0, .slice none 0 0, .slice none 0 0] 26 (0, 0)) := unhide N1
    have p0 : (w2.drewN k).cell? ⟨w.heap.size, 0, none⟩ = some (.int .i64 0) := row_cell n1
    have y0 : (w2.drewN k).frozen? ⟨w.heap.size, 0, none⟩ = false := row_free n1
    have p1 : (w2.drewN k).cell? ⟨w.heap.size, 1, none⟩ = some (.int .i64 0) := row_cell n1
    have y1 : (w2.drewN k).frozen? ⟨w.heap.size, 1, none⟩ = false := row_free n1
    have p2 : (w2.drewN k).cell? ⟨w.heap.size, 2, none⟩ = some (.slice none 0 0) := row_cell n1
    have y2 : (w2.drewN k).frozen? ⟨w.heap.size, 2, none⟩ = false := row_free n1
    have p3 : (w2.drewN k).cell? ⟨w.heap.size, 3, none⟩ = some (.slice none 0 0) := row_cell n1
    have y3 : (w2.drewN k).frozen? ⟨w.heap.size, 3, none⟩ = false := row_free n1
    have NN := hide n1
    have BN := hide (below_drewN (unhide HB1) k)
    clear n1
    generalize w2.drewN k = w4 at *
    go_wp2
    rw [unhide HE]
    exact bodyPost_ret (results_tmp_row rfl _ _ w.heap.size 26 _ (0, 0) _ _ rfl rfl (row_put4 (unhide NN) 0 0 (.slice none 0 0) (.slice none 0 0)) Try.underlying26 rfl (by kernel_rfl)) rfl ⟨_, rfl, own_noX _ _ _, bl_put4 (unhide BN) (Nat.le_refl _)⟩
  cases u2
  · have HE := hide (unhide HE1 rfl)
    go_enter Try.func14, Try.ntmps14
    go_wp2_with fail
    refine (unhide K1).mono ?_
    rintro e w1 ⟨rfl, rfl⟩
    go_wp2_with fail
    generalize (w.alloc (.cells #[.int .i64 0, .int .i64 0, .slice none 0 0, .slice none 0 0] 26)).alloc (.cells #[.int .i64 p, .int .i64 wd, .slice A ss.length ca, .slice none 0 0] 26) = w2 at *
    refine (unhide K2).mono ?_
    rintro e w3 ⟨rfl, k, rfl⟩
    go_wp2_with fail
    refine (unhide K3 k).mono ?_
    rintro e w4 ⟨rfl, b4⟩
    have n1 := (b4.block w.heap.size (Array.getElem?_eq_some_iff.1 (unhide N1)).1).trans (unhide N1)
    have p0 : w4.cell? ⟨w.heap.size, 0, none⟩ = some (.int .i64 0) := row_cell n1
    have y0 : w4.frozen? ⟨w.heap.size, 0, none⟩ = false := row_free n1
    have p1 : w4.cell? ⟨w.heap.size, 1, none⟩ = some (.int .i64 0) := row_cell n1
    have y1 : w4.frozen? ⟨w.heap.size, 1, none⟩ = false := row_free n1
    have p2 : w4.cell? ⟨w.heap.size, 2, none⟩ = some (.slice none 0 0) := row_cell n1
    have y2 : w4.frozen? ⟨w.heap.size, 2, none⟩ = false := row_free n1
    have p3 : w4.cell? ⟨w.heap.size, 3, none⟩ = some (.slice none 0 0) := row_cell n1
    have y3 : w4.frozen? ⟨w.heap.size, 3, none⟩ = false := row_free n1
    have NN := hide n1
    have BN := hide (bl_st b4 (below_drewN (unhide HB1) k))
    clear n1 b4
    go_wp2
    rw [unhide HE]
    exact bodyPost_ret (results_tmp_row rfl _ _ w.heap.size 26 _ (0, 0) _ _ rfl rfl (row_put4 (unhide NN) 0 0 (.slice none 0 0) (.slice none 0 0)) Try.underlying26 rfl (by kernel_rfl)) rfl ⟨_, rfl, own_noX _ _ _, bl_put4 (unhide BN) (Nat.le_refl _)⟩
  obtain ⟨p2, p9, w1', wp, w64⟩ := unhide HIN rfl
  obtain ⟨s1, s4⟩ := unhide HLE rfl
  have HE := hide (unhide HE2 rfl rfl)
  obtain ⟨M, hM⟩ : ∃ M : Nat, wd = (M : Int) := ⟨wd.toNat, by omega⟩
  subst hM
  rw [Int.toNat_natCast] at HE
  have mk := make_words ss.length (by omega)
  have K4 := hide (fun g W hq h1 hg => with48 (w.heap.size + 1) g p M ss.length (.slice A ss.length ca) (.slice none 0 0) ss (List.replicate ss.length 0) [] ss.length (fun _ _ => false) W hq h1 rfl s1 s4 (by omega) (by omega) hg (holds_zero M ss.length))
  clear HIN HLE HE1 HE2 p2 p9 w1' wp w64 s1 s4
  go_enter Try.func14, Try.ntmps14
  go_wp2_with fail
  refine (unhide K1).mono ?_
  rintro e w1 ⟨rfl, rfl⟩
  go_wp2_with fail
  generalize (w.alloc (.cells #[.int .i64 0, .int .i64 0, .slice none 0 0, .slice none 0 0] 26)).alloc (.cells #[.int .i64 p, .int .i64 (M : Int), .slice A ss.length ca, .slice none 0 0] 26) = w2 at *
  refine (unhide K2).mono ?_
  rintro e w3 ⟨rfl, k, rfl⟩
  go_wp2_with fail
  refine (unhide K3 k).mono ?_
  rintro e w4 ⟨rfl, b4⟩
  have b24 : Below w2.heap.size w2 w4 := bl_st b4 (below_drewN (Below.refl _ _) k)
  have BW : Below w4.heap.size w4 (w4.alloc (wrdO (List.replicate ss.length 0) [])) := bl_al (Below.refl _ _)
  have b25 := bl_st BW b24
  have K5 := hide (unhide K4 w4.heap.size _ ((unhide HC).below b25) ((unhide V1).below b25) (heap_alloc_new w4 _))
  have N5 := hide ((b25.block w.heap.size (Array.getElem?_eq_some_iff.1 (unhide N1)).1).trans (unhide N1))
  have B5 := hide (bl_st b25 (unhide HB1))
  have L5 : Hid (w.heap.size + 1 + 1 ≤ (w4.alloc (wrdO (List.replicate ss.length 0) [])).heap.size) := hide (by have := b25.size; have := unhide E1; omega)
  clear b4 b24 BW b25 K4 HC V1 N1 HB1
  go_wp2_with fail
  generalize w4.alloc (wrdO (List.replicate ss.length 0) []) = w5 at *
  refine (unhide K5).mono ?_
  rintro e w6 ⟨r, rfl, ox, b6⟩
  rw [bitsOf_false] at ox
  obtain ⟨D1, m1, k1, D2, m2, k2, hre⟩ := ox.slices
  dsimp only at hre
  subst hre
  have B6 := hide (bl_st b6 (unhide B5))
  have OX := hide ox
  have n3 := (b6.block _ (Array.getElem?_eq_some_iff.1 (unhide N5)).1).trans (unhide N5)
  have p0 : w6.cell? ⟨w.heap.size, 0, none⟩ = some (.int .i64 0) := row_cell n3
  have y0 : w6.frozen? ⟨w.heap.size, 0, none⟩ = false := row_free n3
  have p1 : w6.cell? ⟨w.heap.size, 1, none⟩ = some (.int .i64 0) := row_cell n3
  have y1 : w6.frozen? ⟨w.heap.size, 1, none⟩ = false := row_free n3
  have p2 : w6.cell? ⟨w.heap.size, 2, none⟩ = some (.slice none 0 0) := row_cell n3
  have y2 : w6.frozen? ⟨w.heap.size, 2, none⟩ = false := row_free n3
  have p3 : w6.cell? ⟨w.heap.size, 3, none⟩ = some (.slice none 0 0) := row_cell n3
  have y3 : w6.frozen? ⟨w.heap.size, 3, none⟩ = false := row_free n3
  have N3 := hide n3
  clear b6 ox n3 K5 mk
  go_wp2
  rw [unhide HE]
  refine bodyPost_ret (results_tmp_row rfl _ _ w.heap.size 26 _ (0, 0) _ _ rfl rfl (row_put4 (unhide N3) p (M : Int) (.slice D1 m1 k1) (.slice D2 m2 k2)) Try.underlying26 rfl (by kernel_rfl)) rfl ⟨_, rfl, ?_, bl_put4 (unhide B6) (Nat.le_refl _)⟩
  have l5 := unhide L5
  refine ((unhide OX).lone (lone_put4 w6 w.heap.size p (M : Int) _ _) (by omega)).wide (by omega) ?_
  rw [size_put4]
  exact Nat.le_refl _
end Go.Proofs.Ythckgccfjpgbaaa
