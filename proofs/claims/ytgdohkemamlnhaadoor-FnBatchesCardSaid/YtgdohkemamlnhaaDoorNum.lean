/- Numbers as bytes, and a message's bytes, as the specification has them. -/
import Derived.Test.YtgdohkemamlnhaaDoorMsg
namespace Go.Proofs.YtgdohkemamlnhaaDoor
open Go.RowKit
set_option maxHeartbeats 4000000
set_option maxRecDepth 20000
def num4 (n : Int) : List Int := [n / 16777216 % 256, n / 65536 % 256, n / 256 % 256, n % 256]
def num2 (n : Int) : List Int := [n / 256 % 256, n % 256]
theorem num24_4 (n : Int) (w : World) : Calls Tryd.prog 61 #[.int .i64 n, .int .i64 4] w fun e w' => ∃ v, e = .returned v ∧ w'.ownsRow w.heap.size 5 1 v 4 ((num4 n).map (Value.int .u8)) ∧ (∃ g c, v = .slice (some ⟨g, 0, none⟩) 4 c) ∧ Below w.heap.size w w' := by
  obtain ⟨i0, hi0, hz0, hz1, hz2⟩ := info_parts info5
  have own0 := World.ownsRow_made w (e := 5) (size := 1) #[] 0 (Nat.le_refl _) (Nat.zero_le _) rfl
  have b0 : Below w.heap.size w (w.alloc (.cells #[] 5)) := (Below.refl _ _).alloc (Nat.le_refl _) _
  go_enter Tryd.func61, Tryd.ntmps61
  go_wp2
  refine wp_loop_rounds 5 ?_
  generalize w.alloc (.cells #[] 5) = w0 at *
  rw [rounds_succ]
  go_wp2_with (at_builtin; refine wpList_append_lies _ rfl _ _ 22 rfl w.heap.size 5 i0 (.int .u8 0) 1 1 Tryd.underlying22 hi0 hz0 hz1 hz2 rfl (by omega) (.slice (some ⟨w.heap.size, 0, none⟩) 0 0) 0 [] rfl (own0.alloc _)
                    ⟨w0.heap.size, 0, none⟩ 1 1 [.int .u8 (n / 16777216 % 256)] rfl rfl (World.news_of_block (cs := #[.int .u8 (n / 16777216 % 256)]) (t := 5) (fr := (0, 0)) (heap_alloc_new w0 _)) (by simp [Value.oneCell'])
                    (by omega) (by unfold maxLen; omega) (by omega) (by have := b0.size; simp; omega) (w0.heap.size + 1) (by simp) ?_; intro g1 c1 w1 own1 gr1 at1 lt1)
  have b1 : Below w.heap.size w w1 := Below.grown (b0.alloc b0.size _) gr1 (by have := b0.size; simp; omega) fun k hk => (own0.lt k hk).1
  clear own0 b0 gr1 at1 lt1
  go_wp2
  rw [rounds_succ]
  go_wp2_with (at_builtin; refine wpList_append_lies _ rfl _ _ 22 rfl w.heap.size 5 i0 (.int .u8 0) 1 1 Tryd.underlying22 hi0 hz0 hz1 hz2 rfl (by omega) (.slice (some ⟨g1, 0, none⟩) 1 c1) 1 [.int .u8 (n / 16777216 % 256)] rfl (own1.alloc _)
                    ⟨w1.heap.size, 0, none⟩ 1 1 [.int .u8 (n / 65536 % 256)] rfl rfl (World.news_of_block (cs := #[.int .u8 (n / 65536 % 256)]) (t := 5) (fr := (0, 0)) (heap_alloc_new w1 _)) (by simp [Value.oneCell'])
                    (by omega) (by unfold maxLen; omega) (by omega) (by have := b1.size; simp; omega) (w1.heap.size + 1) (by simp) ?_; intro g2 c2 w2 own2 gr2 at2 lt2)
  have b2 : Below w.heap.size w w2 := Below.grown (b1.alloc b1.size _) gr2 (by have := b1.size; simp; omega) fun k hk => (own1.lt k hk).1
  clear own1 b1 gr2 at2 lt2
  go_wp2
  rw [rounds_succ]
  go_wp2_with (at_builtin; refine wpList_append_lies _ rfl _ _ 22 rfl w.heap.size 5 i0 (.int .u8 0) 1 1 Tryd.underlying22 hi0 hz0 hz1 hz2 rfl (by omega) (.slice (some ⟨g2, 0, none⟩) 2 c2) 2 [.int .u8 (n / 16777216 % 256), .int .u8 (n / 65536 % 256)] rfl (own2.alloc _)
                    ⟨w2.heap.size, 0, none⟩ 1 1 [.int .u8 (n / 256 % 256)] rfl rfl (World.news_of_block (cs := #[.int .u8 (n / 256 % 256)]) (t := 5) (fr := (0, 0)) (heap_alloc_new w2 _)) (by simp [Value.oneCell'])
                    (by omega) (by unfold maxLen; omega) (by omega) (by have := b2.size; simp; omega) (w2.heap.size + 1) (by simp) ?_; intro g3 c3 w3 own3 gr3 at3 lt3)
  have b3 : Below w.heap.size w w3 := Below.grown (b2.alloc b2.size _) gr3 (by have := b2.size; simp; omega) fun k hk => (own2.lt k hk).1
  clear own2 b2 gr3 at3 lt3
  go_wp2
  rw [rounds_succ]
  go_wp2_with (at_builtin; refine wpList_append_lies _ rfl _ _ 22 rfl w.heap.size 5 i0 (.int .u8 0) 1 1 Tryd.underlying22 hi0 hz0 hz1 hz2 rfl (by omega) (.slice (some ⟨g3, 0, none⟩) 3 c3) 3 [.int .u8 (n / 16777216 % 256), .int .u8 (n / 65536 % 256), .int .u8 (n / 256 % 256)] rfl (own3.alloc _)
                    ⟨w3.heap.size, 0, none⟩ 1 1 [.int .u8 (n % 256)] rfl rfl (World.news_of_block (cs := #[.int .u8 (n % 256)]) (t := 5) (fr := (0, 0)) (heap_alloc_new w3 _)) (by simp [Value.oneCell'])
                    (by omega) (by unfold maxLen; omega) (by omega) (by have := b3.size; simp; omega) (w3.heap.size + 1) (by simp) ?_; intro g4 c4 w4 own4 gr4 at4 lt4)
  have b4 : Below w.heap.size w w4 := Below.grown (b3.alloc b3.size _) gr4 (by have := b3.size; simp; omega) fun k hk => (own3.lt k hk).1
  clear own3 b3 gr4 at4 lt4
  go_wp2
  rw [rounds_succ]
  go_wp2
  go_ret
  exact ⟨_, rfl, own4, ⟨_, _, rfl⟩, b4⟩
theorem num24_2 (n : Int) (w : World) : Calls Tryd.prog 61 #[.int .i64 n, .int .i64 2] w fun e w' => ∃ v, e = .returned v ∧ w'.ownsRow w.heap.size 5 1 v 2 ((num2 n).map (Value.int .u8)) ∧ (∃ g c, v = .slice (some ⟨g, 0, none⟩) 2 c) ∧ Below w.heap.size w w' := by
  obtain ⟨i0, hi0, hz0, hz1, hz2⟩ := info_parts info5
  have own0 := World.ownsRow_made w (e := 5) (size := 1) #[] 0 (Nat.le_refl _) (Nat.zero_le _) rfl
  have b0 : Below w.heap.size w (w.alloc (.cells #[] 5)) := (Below.refl _ _).alloc (Nat.le_refl _) _
  go_enter Tryd.func61, Tryd.ntmps61
  go_wp2
  refine wp_loop_rounds 3 ?_
  generalize w.alloc (.cells #[] 5) = w0 at *
  rw [rounds_succ]
  go_wp2_with (at_builtin; refine wpList_append_lies _ rfl _ _ 22 rfl w.heap.size 5 i0 (.int .u8 0) 1 1 Tryd.underlying22 hi0 hz0 hz1 hz2 rfl (by omega) (.slice (some ⟨w.heap.size, 0, none⟩) 0 0) 0 [] rfl (own0.alloc _)
                    ⟨w0.heap.size, 0, none⟩ 1 1 [.int .u8 (n / 256 % 256)] rfl rfl (World.news_of_block (cs := #[.int .u8 (n / 256 % 256)]) (t := 5) (fr := (0, 0)) (heap_alloc_new w0 _)) (by simp [Value.oneCell'])
                    (by omega) (by unfold maxLen; omega) (by omega) (by have := b0.size; simp; omega) (w0.heap.size + 1) (by simp) ?_; intro g1 c1 w1 own1 gr1 at1 lt1)
  have b1 : Below w.heap.size w w1 := Below.grown (b0.alloc b0.size _) gr1 (by have := b0.size; simp; omega) fun k hk => (own0.lt k hk).1
  clear own0 b0 gr1 at1 lt1
  go_wp2
  rw [rounds_succ]
  go_wp2_with (at_builtin; refine wpList_append_lies _ rfl _ _ 22 rfl w.heap.size 5 i0 (.int .u8 0) 1 1 Tryd.underlying22 hi0 hz0 hz1 hz2 rfl (by omega) (.slice (some ⟨g1, 0, none⟩) 1 c1) 1 [.int .u8 (n / 256 % 256)] rfl (own1.alloc _)
                    ⟨w1.heap.size, 0, none⟩ 1 1 [.int .u8 (n % 256)] rfl rfl (World.news_of_block (cs := #[.int .u8 (n % 256)]) (t := 5) (fr := (0, 0)) (heap_alloc_new w1 _)) (by simp [Value.oneCell'])
                    (by omega) (by unfold maxLen; omega) (by omega) (by have := b1.size; simp; omega) (w1.heap.size + 1) (by simp) ?_; intro g2 c2 w2 own2 gr2 at2 lt2)
  have b2 : Below w.heap.size w w2 := Below.grown (b1.alloc b1.size _) gr2 (by have := b1.size; simp; omega) fun k hk => (own1.lt k hk).1
  clear own1 b1 gr2 at2 lt2
  go_wp2
  rw [rounds_succ]
  go_wp2
  go_ret
  exact ⟨_, rfl, own2, ⟨_, _, rfl⟩, b2⟩
end Go.Proofs.YtgdohkemamlnhaaDoor
