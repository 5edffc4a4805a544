/- The specification's reading of a line by its words: a part of the ways. -/
import Derived.Test.YtbkcgkffafjbgaaGreatDoorRdo
namespace Go.Proofs.YtbkcgkffafjbgaaGreatDoor
open Go.RowKit
set_option maxHeartbeats 4000000
set_option maxRecDepth 20000
theorem hang_one (b off cap : Nat) (t0 : ByteArray) (l : By)  (w : World) (c0 : wordAt w b (off) t0) (s0 : (t0.toList == [115, 97, 121]) = false) (r0 : (t0.toList == [114, 111, 117, 110, 100]) = false) (h0 : (t0.toList == [104, 97, 110, 103]) = true) :
    Calls Tryz.prog 16 #[.string (bs l), .slice (some ⟨b, off, none⟩) 1 cap] w (outD (none) w) := by
  have z0 := c0
  unfold wordAt at z0
  clear c0
  go_enter Tryz.func16, Tryz.ntmps16
  go_wp2_with (go_at_call 30; go_in)
  all_goals
    refine bodyPost_ret (results_tmp_rowD rfl _ _ w.heap.size 27 _ (0, 0) _ (.bool false) rfl rfl (heap_alloc_new _ _) Tryz.underlying27 rfl (by kernel_rfl)) rfl ?_
    exact ⟨bl_al (Below.refl _ _), _, rfl, rfl, by kernel_rfl, by kernel_rfl⟩
theorem hang_two (b off cap : Nat) (t0 : ByteArray) (l : By) (W1 : By) (w : World) (c0 : wordAt w b (off) t0) (c1 : wordAt w b (off + 1) (bs W1)) (s0 : (t0.toList == [115, 97, 121]) = false) (r0 : (t0.toList == [114, 111, 117, 110, 100]) = false) (h0 : (t0.toList == [104, 97, 110, 103]) = true) :
    Calls Tryz.prog 16 #[.string (bs l), .slice (some ⟨b, off, none⟩) 2 cap] w (outD ((whoF W1).bind fun k => some ⟨3, k, [], false, false⟩) w) := by
  have z0 := c0
  unfold wordAt at z0
  have z1 := c1
  unfold wordAt at z1
  clear c0 c1
  have hx := bs_toList W1
  by_cases ha : W1 = [97]
  · have a1 : ((bs W1).toList == [97]) = true := by rw [hx, ha]; rfl
    rw [show whoF W1 = some 0 by unfold whoF; rw [if_pos ha]]
    simp only [Option.bind]
    clear hx ha
    generalize bs W1 = t1 at *
    go_enter Tryz.func16, Tryz.ntmps16
    go_wp2_with (go_at_call 30; go_in)
    refine bodyPost_ret (results_tmp_rowD rfl _ _ w.heap.size 27 (atA ⟨3, 0, [], false, false⟩) (0, 0) _ (.bool true) rfl rfl (heap_alloc_new _ _) Tryz.underlying27 rfl (by kernel_rfl)) rfl ?_
    exact ⟨bl_al (Below.refl _ _), rfl⟩
  have a1 : ((bs W1).toList == [97]) = false := by rw [hx]; simpa using ha
  by_cases hb : W1 = [98]
  · have b1 : ((bs W1).toList == [98]) = true := by rw [hx, hb]; rfl
    rw [show whoF W1 = some 1 by unfold whoF; rw [if_neg ha, if_pos hb]]
    simp only [Option.bind]
    clear hx ha hb
    generalize bs W1 = t1 at *
    go_enter Tryz.func16, Tryz.ntmps16
    go_wp2_with (go_at_call 30; go_in)
    refine bodyPost_ret (results_tmp_rowD rfl _ _ w.heap.size 27 (atA ⟨3, 1, [], false, false⟩) (0, 0) _ (.bool true) rfl rfl (heap_alloc_new _ _) Tryz.underlying27 rfl (by kernel_rfl)) rfl ?_
    exact ⟨bl_al (Below.refl _ _), rfl⟩
  have b1 : ((bs W1).toList == [98]) = false := by rw [hx]; simpa using hb
  by_cases ho : W1 = [98, 111, 116, 104]
  · have o1 : ((bs W1).toList == [98, 111, 116, 104]) = true := by rw [hx, ho]; rfl
    rw [show whoF W1 = none by unfold whoF; rw [if_neg ha, if_neg hb]]
    simp only [Option.bind]
    clear hx ha hb ho
    generalize bs W1 = t1 at *
    go_enter Tryz.func16, Tryz.ntmps16
    go_wp2_with (go_at_call 30; go_in)
    all_goals
      refine bodyPost_ret (results_tmp_rowD rfl _ _ w.heap.size 27 _ (0, 0) _ (.bool false) rfl rfl (heap_alloc_new _ _) Tryz.underlying27 rfl (by kernel_rfl)) rfl ?_
      exact ⟨bl_al (Below.refl _ _), _, rfl, rfl, by kernel_rfl, by kernel_rfl⟩
  have o1 : ((bs W1).toList == [98, 111, 116, 104]) = false := by rw [hx]; simpa using ho
  rw [show whoF W1 = none by unfold whoF; rw [if_neg ha, if_neg hb]]
  simp only [Option.bind]
  clear hx ha hb ho
  generalize bs W1 = t1 at *
  go_enter Tryz.func16, Tryz.ntmps16
  go_wp2_with (go_at_call 30; go_in)
  all_goals
    refine bodyPost_ret (results_tmp_rowD rfl _ _ w.heap.size 27 _ (0, 0) _ (.bool false) rfl rfl (heap_alloc_new _ _) Tryz.underlying27 rfl (by kernel_rfl)) rfl ?_
    exact ⟨bl_al (Below.refl _ _), _, rfl, rfl, by kernel_rfl, by kernel_rfl⟩
theorem hang_more (b off cap n : Nat) (t0 t1 : ByteArray) (l : By) (hn : 3 ≤ n) (hn2 : n ≤ maxLen) (w : World) (c0 : wordAt w b (off) t0) (c1 : wordAt w b (off + 1) t1) (s0 : (t0.toList == [115, 97, 121]) = false) (r0 : (t0.toList == [114, 111, 117, 110, 100]) = false) (h0 : (t0.toList == [104, 97, 110, 103]) = true) :
    Calls Tryz.prog 16 #[.string (bs l), .slice (some ⟨b, off, none⟩) n cap] w (outD (none) w) := by
  have z0 := c0
  unfold wordAt at z0
  have z1 := c1
  unfold wordAt at z1
  clear c0 c1
  have q1 : (1 : Int) < (n : Int) := by omega
  have q9 : (n : Int) ≤ 9223372036854775807 := by unfold maxLen at hn2; omega
  have q4 : ((n : Int) == 2) = false := by simp; omega
  clear hn hn2
  go_enter Tryz.func16, Tryz.ntmps16
  go_wp2_with (go_at_call 30; go_in)
  all_goals
    refine bodyPost_ret (results_tmp_rowD rfl _ _ w.heap.size 27 _ (0, 0) _ (.bool false) rfl rfl (heap_alloc_new _ _) Tryz.underlying27 rfl (by kernel_rfl)) rfl ?_
    exact ⟨bl_al (Below.refl _ _), _, rfl, rfl, by kernel_rfl, by kernel_rfl⟩
theorem other_one (b off cap : Nat) (t0 : ByteArray) (l : By)  (w : World) (c0 : wordAt w b (off) t0) (s0 : (t0.toList == [115, 97, 121]) = false) (r0 : (t0.toList == [114, 111, 117, 110, 100]) = false) (h0 : (t0.toList == [104, 97, 110, 103]) = false) :
    Calls Tryz.prog 16 #[.string (bs l), .slice (some ⟨b, off, none⟩) 1 cap] w (outD (none) w) := by
  have z0 := c0
  unfold wordAt at z0
  clear c0
  go_enter Tryz.func16, Tryz.ntmps16
  go_wp2_with (go_at_call 30; go_in)
  all_goals
    refine bodyPost_ret (results_tmp_rowD rfl _ _ w.heap.size 27 _ (0, 0) _ (.bool false) rfl rfl (heap_alloc_new _ _) Tryz.underlying27 rfl (by kernel_rfl)) rfl ?_
    exact ⟨bl_al (Below.refl _ _), _, rfl, rfl, by kernel_rfl, by kernel_rfl⟩
theorem other_more (b off cap n : Nat) (t0 t1 : ByteArray) (l : By) (hn : 2 ≤ n) (hn2 : n ≤ maxLen) (w : World) (c0 : wordAt w b (off) t0) (c1 : wordAt w b (off + 1) t1) (s0 : (t0.toList == [115, 97, 121]) = false) (r0 : (t0.toList == [114, 111, 117, 110, 100]) = false) (h0 : (t0.toList == [104, 97, 110, 103]) = false) :
    Calls Tryz.prog 16 #[.string (bs l), .slice (some ⟨b, off, none⟩) n cap] w (outD (none) w) := by
  have z0 := c0
  unfold wordAt at z0
  have z1 := c1
  unfold wordAt at z1
  clear c0 c1
  have q1 : (1 : Int) < (n : Int) := by omega
  have q9 : (n : Int) ≤ 9223372036854775807 := by unfold maxLen at hn2; omega
  clear hn hn2
  go_enter Tryz.func16, Tryz.ntmps16
  go_wp2_with (go_at_call 30; go_in)
  all_goals
    refine bodyPost_ret (results_tmp_rowD rfl _ _ w.heap.size 27 _ (0, 0) _ (.bool false) rfl rfl (heap_alloc_new _ _) Tryz.underlying27 rfl (by kernel_rfl)) rfl ?_
    exact ⟨bl_al (Below.refl _ _), _, rfl, rfl, by kernel_rfl, by kernel_rfl⟩
end Go.Proofs.YtbkcgkffafjbgaaGreatDoor
