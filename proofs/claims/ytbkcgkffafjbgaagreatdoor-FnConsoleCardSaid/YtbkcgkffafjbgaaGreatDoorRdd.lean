/- The specification's reading of a line by its words: a part of the ways. -/
import Derived.Test.YtbkcgkffafjbgaaGreatDoorRdo
namespace Go.Proofs.YtbkcgkffafjbgaaGreatDoor
open Go.RowKit
set_option maxHeartbeats 4000000
set_option maxRecDepth 20000
theorem lose_none (b off cap : Nat) (t0 t1 t2 : ByteArray) (l : By)  (w : World) (c0 : wordAt w b (off) t0) (c1 : wordAt w b (off + 1) t1) (c2 : wordAt w b (off + 2) t2) (s0 : (t0.toList == [115, 97, 121]) = false) (r0 : (t0.toList == [114, 111, 117, 110, 100]) = true) (h0 : (t0.toList == [104, 97, 110, 103]) = false) (l1 : (t1.toList == [108, 111, 115, 101]) = false) :
    Calls Tryz.prog 16 #[.string (bs l), .slice (some ⟨b, off, none⟩) 3 cap] w (outD (none) w) := by
  have z0 := c0
  unfold wordAt at z0
  have z1 := c1
  unfold wordAt at z1
  have z2 := c2
  unfold wordAt at z2
  clear c0 c1 c2
  go_enter Tryz.func16, Tryz.ntmps16
  go_wp2_with (go_at_call 30; go_in)
  all_goals
    refine bodyPost_ret (results_tmp_rowD rfl _ _ w.heap.size 27 _ (0, 0) _ (.bool false) rfl rfl (heap_alloc_new _ _) Tryz.underlying27 rfl (by kernel_rfl)) rfl ?_
    exact ⟨bl_al (Below.refl _ _), _, rfl, rfl, by kernel_rfl, by kernel_rfl⟩
theorem lose_three (b off cap : Nat) (t0 t1 : ByteArray) (l : By) (W2 : By) (w : World) (c0 : wordAt w b (off) t0) (c1 : wordAt w b (off + 1) t1) (c2 : wordAt w b (off + 2) (bs W2)) (s0 : (t0.toList == [115, 97, 121]) = false) (r0 : (t0.toList == [114, 111, 117, 110, 100]) = true) (h0 : (t0.toList == [104, 97, 110, 103]) = false) (l1 : (t1.toList == [108, 111, 115, 101]) = true) :
    Calls Tryz.prog 16 #[.string (bs l), .slice (some ⟨b, off, none⟩) 3 cap] w (outD ((lostF W2).bind fun p => some ⟨2, 0, [], p.1, p.2⟩) w) := by
  have z0 := c0
  unfold wordAt at z0
  have z1 := c1
  unfold wordAt at z1
  have z2 := c2
  unfold wordAt at z2
  clear c0 c1 c2
  have hx := bs_toList W2
  by_cases ha : W2 = [97]
  · have a1 : ((bs W2).toList == [97]) = true := by rw [hx, ha]; rfl
    rw [show lostF W2 = some (true, false) by unfold lostF; rw [if_pos ha]]
    simp only [Option.bind]
    clear hx ha
    generalize bs W2 = t2 at *
    go_enter Tryz.func16, Tryz.ntmps16
    go_wp2_with (go_at_call 30; go_in)
    refine bodyPost_ret (results_tmp_rowD rfl _ _ w.heap.size 27 (atA ⟨2, 0, [], true, false⟩) (0, 0) _ (.bool true) rfl rfl (heap_alloc_new _ _) Tryz.underlying27 rfl (by kernel_rfl)) rfl ?_
    exact ⟨bl_al (Below.refl _ _), rfl⟩
  have a1 : ((bs W2).toList == [97]) = false := by rw [hx]; simpa using ha
  by_cases hb : W2 = [98]
  · have b1 : ((bs W2).toList == [98]) = true := by rw [hx, hb]; rfl
    rw [show lostF W2 = some (false, true) by unfold lostF; rw [if_neg ha, if_pos hb]]
    simp only [Option.bind]
    clear hx ha hb
    generalize bs W2 = t2 at *
    go_enter Tryz.func16, Tryz.ntmps16
    go_wp2_with (go_at_call 30; go_in)
    refine bodyPost_ret (results_tmp_rowD rfl _ _ w.heap.size 27 (atA ⟨2, 0, [], false, true⟩) (0, 0) _ (.bool true) rfl rfl (heap_alloc_new _ _) Tryz.underlying27 rfl (by kernel_rfl)) rfl ?_
    exact ⟨bl_al (Below.refl _ _), rfl⟩
  have b1 : ((bs W2).toList == [98]) = false := by rw [hx]; simpa using hb
  by_cases ho : W2 = [98, 111, 116, 104]
  · have o1 : ((bs W2).toList == [98, 111, 116, 104]) = true := by rw [hx, ho]; rfl
    rw [show lostF W2 = some (true, true) by unfold lostF; rw [if_neg ha, if_neg hb, if_pos ho]]
    simp only [Option.bind]
    clear hx ha hb ho
    generalize bs W2 = t2 at *
    go_enter Tryz.func16, Tryz.ntmps16
    go_wp2_with (go_at_call 30; go_in)
    refine bodyPost_ret (results_tmp_rowD rfl _ _ w.heap.size 27 (atA ⟨2, 0, [], true, true⟩) (0, 0) _ (.bool true) rfl rfl (heap_alloc_new _ _) Tryz.underlying27 rfl (by kernel_rfl)) rfl ?_
    exact ⟨bl_al (Below.refl _ _), rfl⟩
  have o1 : ((bs W2).toList == [98, 111, 116, 104]) = false := by rw [hx]; simpa using ho
  rw [show lostF W2 = none by unfold lostF; rw [if_neg ha, if_neg hb, if_neg ho]]
  simp only [Option.bind]
  clear hx ha hb ho
  generalize bs W2 = t2 at *
  go_enter Tryz.func16, Tryz.ntmps16
  go_wp2_with (go_at_call 30; go_in)
  all_goals
    refine bodyPost_ret (results_tmp_rowD rfl _ _ w.heap.size 27 _ (0, 0) _ (.bool false) rfl rfl (heap_alloc_new _ _) Tryz.underlying27 rfl (by kernel_rfl)) rfl ?_
    exact ⟨bl_al (Below.refl _ _), _, rfl, rfl, by kernel_rfl, by kernel_rfl⟩
end Go.Proofs.YtbkcgkffafjbgaaGreatDoor
