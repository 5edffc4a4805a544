/- Contracts of sums, differences and the one form of the five limbs. -/
import Derived.Test.YtncplefjokbbjaaImplA
namespace Go.Proofs.Ytncplefjokbbjaa
open Go.RowKit
set_option maxHeartbeats 800000
/-- each limb keeps to 51 bits -/
def In51 (m0 m1 m2 m3 m4 : Int) : Prop := (0 ≤ m0 ∧ m0 < 2251799813685248) ∧ (0 ≤ m1 ∧ m1 < 2251799813685248) ∧ (0 ≤ m2 ∧ m2 < 2251799813685248) ∧ (0 ≤ m3 ∧ m3 < 2251799813685248) ∧ (0 ≤ m4 ∧ m4 < 2251799813685248)
/-- each limb is carried: the lowest may stand above its bits by less than 256 -/
def Car (m0 m1 m2 m3 m4 : Int) : Prop := (0 ≤ m0 ∧ m0 < 2251799813685504) ∧ (0 ≤ m1 ∧ m1 < 2251799813685248) ∧ (0 ≤ m2 ∧ m2 < 2251799813685248) ∧ (0 ≤ m3 ∧ m3 < 2251799813685248) ∧ (0 ≤ m4 ∧ m4 < 2251799813685248)
theorem V5_car {m0 m1 m2 m3 m4 : Int} (h : Car m0 m1 m2 m3 m4) : 0 ≤ V5 m0 m1 m2 m3 m4 ∧ V5 m0 m1 m2 m3 m4 < 57896044618658097711785492504343953926634992332820282019728792003956564820224 := by
  obtain ⟨h0, h1, h2, h3, h4⟩ := h; unfold V5; omega
theorem V5_in {m0 m1 m2 m3 m4 : Int} (h : In51 m0 m1 m2 m3 m4) : 0 ≤ V5 m0 m1 m2 m3 m4 ∧ V5 m0 m1 m2 m3 m4 < 57896044618658097711785492504343953926634992332820282019728792003956564819968 := by
  obtain ⟨h0, h1, h2, h3, h4⟩ := h; unfold V5; omega
theorem settle_one {A M c : Int} (hA : 0 ≤ A ∧ A < 57896044618658097711785492504343953926634992332820282019728792003956564820224) (hM : 0 ≤ M ∧ M < 57896044618658097711785492504343953926634992332820282019728792003956564819968) (hc : 0 < c)
    (h : A + 19 = M + 57896044618658097711785492504343953926634992332820282019728792003956564819968 * c) : M = A % pInt := by
  unfold pInt; omega
theorem settle_two {A M N c c2 : Int} (hA : 0 ≤ A) (hM : 0 ≤ M ∧ M < 57896044618658097711785492504343953926634992332820282019728792003956564819968) (hN : 0 ≤ N ∧ N < 57896044618658097711785492504343953926634992332820282019728792003956564819968) (hc : c ≤ 0) (hc0 : 0 ≤ c)
    (h : A + 19 = M + 57896044618658097711785492504343953926634992332820282019728792003956564819968 * c) (h2 : A = N + 57896044618658097711785492504343953926634992332820282019728792003956564819968 * c2) : N = A % pInt := by
  unfold pInt; omega
theorem settled_any (a0 a1 a2 a3 a4 : Int) (w : World) (h : Car a0 a1 a2 a3 a4) :
    Calls Try.prog 29 #[L5 a0 a1 a2 a3 a4] w fun e w' => (∃ m0 m1 m2 m3 m4 : Int, e = .returned (L5 m0 m1 m2 m3 m4) ∧ In51 m0 m1 m2 m3 m4 ∧ V5 m0 m1 m2 m3 m4 = V5 a0 a1 a2 a3 a4 % pInt) ∧ Below w.heap.size w w' := by
  have hA := hide (V5_car h)
  obtain ⟨h0, h1, h2, h3, h4⟩ := h
  go_enter Try.func29, Try.ntmps29
  go_wp2_with fail
  refine (passed_any (a0 + 19) a1 a2 a3 a4 _ (by omega) (by omega) (by omega) (by omega) (by omega)).mono ?_
  rintro e w1 ⟨⟨m0, m1, m2, m3, m4, c, rfl, g0, g1, g2, g3, g4, gc, hv⟩, hb⟩
  have HV := hide (show V5 a0 a1 a2 a3 a4 + 19 = V5 m0 m1 m2 m3 m4 + 57896044618658097711785492504343953926634992332820282019728792003956564819968 * c by rw [← hv]; unfold V5; omega)
  clear hv
  obtain ⟨os, d, rfl⟩ := to_adds hb
  clear hb
  by_cases hc : 0 < c
  · go_wp2
    refine bodyPost_ret (v := L5 m0 m1 m2 m3 m4) (by simp [results, Try.results29, go_sem]) rfl ⟨⟨_, _, _, _, _, rfl, ⟨g0, g1, g2, g3, g4⟩, ?_⟩, ?_⟩
    · exact settle_one (unhide hA) (V5_in ⟨g0, g1, g2, g3, g4⟩) hc (unhide HV)
    · rw [alloc_adds]; refine below_adds ?_ ?_ _ _ <;> go_grown
  · go_wp2_with fail
    refine (passed_any a0 a1 a2 a3 a4 _ (by omega) (by omega) (by omega) (by omega) (by omega)).mono ?_
    rintro e w1 ⟨⟨n0, n1, n2, n3, n4, c2, rfl, k0, k1, k2, k3, k4, kc, kv⟩, hb⟩
    have KV := hide kv
    clear kv
    obtain ⟨os2, d2, rfl⟩ := to_adds hb
    clear hb
    rw [adds_alloc_adds]
    go_wp2
    refine bodyPost_ret (v := L5 n0 n1 n2 n3 n4) (by simp [results, Try.results29, go_sem]) rfl ⟨⟨_, _, _, _, _, rfl, ⟨k0, k1, k2, k3, k4⟩, ?_⟩, ?_⟩
    · exact settle_two (unhide hA).1 (V5_in ⟨g0, g1, g2, g3, g4⟩) (V5_in ⟨k0, k1, k2, k3, k4⟩) hc gc.1 (unhide HV) (unhide KV)
    · refine below_adds ?_ ?_ _ _ <;> go_grown
theorem car_of {m0 m1 m2 m3 m4 c A : Int} (h0 : 0 ≤ m0 ∧ m0 < 2251799813685248 + 19 * c) (h1 : 0 ≤ m1 ∧ m1 < 2251799813685248) (h2 : 0 ≤ m2 ∧ m2 < 2251799813685248) (h3 : 0 ≤ m3 ∧ m3 < 2251799813685248) (h4 : 0 ≤ m4 ∧ m4 < 2251799813685248)
    (hc : 57896044618658097711785492504343953926634992332820282019728792003956564819968 * c ≤ A) (hA : A < 694752535423897172541425910052127447119619907993843384236745504047478777839616) : Car m0 m1 m2 m3 m4 :=
  ⟨by omega, h1, h2, h3, h4⟩
theorem plus_any (a0 a1 a2 a3 a4 b0 b1 b2 b3 b4 : Int) (w : World) (ha : Car a0 a1 a2 a3 a4) (hb : Car b0 b1 b2 b3 b4) :
    Calls Try.prog 35 #[L5 a0 a1 a2 a3 a4, L5 b0 b1 b2 b3 b4] w fun e w' => (∃ m0 m1 m2 m3 m4 : Int, e = .returned (L5 m0 m1 m2 m3 m4) ∧ Car m0 m1 m2 m3 m4 ∧ V5 m0 m1 m2 m3 m4 % pInt = (V5 a0 a1 a2 a3 a4 + V5 b0 b1 b2 b3 b4) % pInt) ∧ Below w.heap.size w w' := by
  have HA := hide (V5_car ha)
  have HB := hide (V5_car hb)
  obtain ⟨h0, h1, h2, h3, h4⟩ := ha
  obtain ⟨g0, g1, g2, g3, g4⟩ := hb
  go_enter Try.func35, Try.ntmps35
  go_wp2
  refine wp_loop_rounds 6 ?_
  rw [rounds_succ]; go_wp2; go_region; go_wp2
  rw [rounds_succ]; go_wp2; go_region; go_wp2
  rw [rounds_succ]; go_wp2; go_region; go_wp2
  rw [rounds_succ]; go_wp2; go_region; go_wp2
  rw [rounds_succ]; go_wp2; go_region; go_wp2
  rw [rounds_succ]
  go_wp2_with fail
  refine (carried_any (a0 + b0) (a1 + b1) (a2 + b2) (a3 + b3) (a4 + b4) _ (by omega) (by omega) (by omega) (by omega) (by omega)).mono ?_
  rintro e w1 ⟨⟨m0, m1, m2, m3, m4, c, rfl, k0, k1, k2, k3, k4, ⟨kc0, kc⟩, kv⟩, hb⟩
  have E : V5 (a0 + b0) (a1 + b1) (a2 + b2) (a3 + b3) (a4 + b4) = V5 a0 a1 a2 a3 a4 + V5 b0 b1 b2 b3 b4 := by unfold V5; omega
  have KC := hide (car_of k0 k1 k2 k3 k4 kc (by rw [E]; have := unhide HA; have := unhide HB; omega))
  have KV := hide (show V5 m0 m1 m2 m3 m4 % pInt = (V5 a0 a1 a2 a3 a4 + V5 b0 b1 b2 b3 b4) % pInt by rw [← E, kv]; simp)
  clear kc kv E
  obtain ⟨os, d, rfl⟩ := to_adds hb
  clear hb
  go_wp2
  refine bodyPost_ret (v := L5 m0 m1 m2 m3 m4) (by simp [results, Try.results35, go_sem]) rfl ⟨⟨_, _, _, _, _, rfl, unhide KC, unhide KV⟩, ?_⟩
  refine below_adds ?_ ?_ _ _ <;> go_grown
theorem minus_any (a0 a1 a2 a3 a4 b0 b1 b2 b3 b4 : Int) (w : World) (ha : Car a0 a1 a2 a3 a4) (hb : Car b0 b1 b2 b3 b4) :
    Calls Try.prog 36 #[L5 a0 a1 a2 a3 a4, L5 b0 b1 b2 b3 b4] w fun e w' => (∃ m0 m1 m2 m3 m4 : Int, e = .returned (L5 m0 m1 m2 m3 m4) ∧ Car m0 m1 m2 m3 m4 ∧ V5 m0 m1 m2 m3 m4 % pInt = (V5 a0 a1 a2 a3 a4 - V5 b0 b1 b2 b3 b4) % pInt) ∧ Below w.heap.size w w' := by
  have HA := hide (V5_car ha)
  have HB := hide (V5_car hb)
  obtain ⟨h0, h1, h2, h3, h4⟩ := ha
  obtain ⟨g0, g1, g2, g3, g4⟩ := hb
  go_enter Try.func36, Try.ntmps36
  go_wp2
  refine wp_loop_rounds 6 ?_
  rw [rounds_succ]; go_wp2; go_region; go_wp2
  rw [rounds_succ]; go_wp2; go_region; go_wp2
  rw [rounds_succ]; go_wp2; go_region; go_wp2
  rw [rounds_succ]; go_wp2; go_region; go_wp2
  rw [rounds_succ]; go_wp2; go_region; go_wp2
  rw [rounds_succ]
  go_wp2_with fail
  refine (carried_any (a0 + (4503599627370458 - b0)) (a1 + (4503599627370494 - b1)) (a2 + (4503599627370494 - b2)) (a3 + (4503599627370494 - b3)) (a4 + (4503599627370494 - b4)) _ (by omega) (by omega) (by omega) (by omega) (by omega)).mono ?_
  rintro e w1 ⟨⟨m0, m1, m2, m3, m4, c, rfl, k0, k1, k2, k3, k4, ⟨kc0, kc⟩, kv⟩, hb⟩
  have E : V5 (a0 + (4503599627370458 - b0)) (a1 + (4503599627370494 - b1)) (a2 + (4503599627370494 - b2)) (a3 + (4503599627370494 - b3)) (a4 + (4503599627370494 - b4)) = V5 a0 a1 a2 a3 a4 - V5 b0 b1 b2 b3 b4 + pInt * 2 := by unfold V5 pInt; omega
  have KC := hide (car_of k0 k1 k2 k3 k4 kc (by rw [E]; unfold pInt; have := unhide HA; have := unhide HB; omega))
  have KV := hide (show V5 m0 m1 m2 m3 m4 % pInt = (V5 a0 a1 a2 a3 a4 - V5 b0 b1 b2 b3 b4) % pInt by
    have e2 : (V5 m0 m1 m2 m3 m4 + pInt * c) % pInt = (V5 a0 a1 a2 a3 a4 - V5 b0 b1 b2 b3 b4 + pInt * 2) % pInt := by rw [← kv, E]
    simpa using e2)
  clear kc kv E
  obtain ⟨os, d, rfl⟩ := to_adds hb
  clear hb
  go_wp2
  refine bodyPost_ret (v := L5 m0 m1 m2 m3 m4) (by simp [results, Try.results36, go_sem]) rfl ⟨⟨_, _, _, _, _, rfl, unhide KC, unhide KV⟩, ?_⟩
  refine below_adds ?_ ?_ _ _ <;> go_grown
end Go.Proofs.Ytncplefjokbbjaa
