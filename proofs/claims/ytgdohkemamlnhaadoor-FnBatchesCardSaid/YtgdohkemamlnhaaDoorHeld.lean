/- Strings that are marked are held. -/
import Derived.Test.YtgdohkemamlnhaaDoorRs
import Derived.Test.YtgdohkemamlnhaaDoorBat
namespace Go.Proofs.YtgdohkemamlnhaaDoor
open Go.RowKit
set_option maxHeartbeats 4000000
set_option maxRecDepth 20000
theorem held36 (v : Value) (n : Nat) (w : World) (hv : strsV w v (marksS n)) (hn : n ≤ 2097152) :
    Calls Tryd.prog 36 #[v, .int .i64 1] w fun e w' => e = .returned (.int .i64 (1 + (n : Int))) ∧ Below w.heap.size w w' := by
  obtain ⟨A, cap, rfl, hc⟩ := hv
  rw [marksS_len] at hc ⊢
  have HC := hide hc
  clear hc
  have n1 : (n : Int) ≤ 2097152 := by omega
  go_enter Tryd.func36, Tryd.ntmps36
  go_wp2
  go_loopw [1, 5] (fun k i wr => ∃ j : Nat, j ≤ n ∧ i = .int .i64 j ∧ k = .int .i64 (1 + (j : Int)) ∧ Below w.heap.size w wr) (fun _ i _ => n - (intOf i).toNat)
  case atStart => exact ⟨0, by omega, rfl, rfl, Below.refl _ _⟩
  case round =>
    obtain ⟨j, hj, rfl, rfl, hb⟩ := hrel
    by_cases hlt : j < n
    · obtain ⟨b, off, hA, hbl, hcell⟩ := unhide HC (by omega)
      subst hA
      have q1 : (j : Int) < (n : Int) := by omega
      have q0 : (0 : Int) ≤ (j : Int) := by omega
      have CF : Hid (∀ W, Below w.heap.size w W → W.cell? ⟨b, off + j, none⟩ = some (.string (mkT (1 + j)))) := hide fun W hb => by
        rw [cell_below hb hbl, hcell j hlt, marksS_at n j hlt]
      have hm := hide fun W => mt38 (1 + j) (by omega) W
      rw [show (((1 + j : Nat)) : Int) = 1 + (j : Int) by omega] at hm
      have HJ := hide hlt
      have HB := hide hb
      clear hcell hlt hj hbl hb
      generalize mkT (1 + j) = t at *
      go_wp2
      refine wp_region_held (S := fun W' => Below w.heap.size w W') (by kernel_rfl) ?_
      have s0 : Below w.heap.size w { wr with drawn := wr.drawn + 1 } := below_drewN (unhide HB) 1
      refine wpAnyH_take (i := 0) (oi := { dst := some 12, op := Op.move (Operand.tmp 0), type := 31, pos := "exact.go:287", after := #[], guard := none }) (v := ?_) rfl (by kernel_rfl) (by kernel_rfl) (by kernel_rfl) (fun _ _ _ h => h) (Or.inl ⟨by rfl, ?_⟩) s0 ?_
      rotate_left
      · intro W hSw
        have cc := unhide CF W hSw
        go_simp
        try with_reducible rfl
      simp only [Act.put, List.setIfInBounds_toArray, List.set_cons_zero, List.set_cons_succ]
      refine wpAnyH_take (i := 1) (oi := { dst := some 13, op := Op.move (Operand.tmp 5), type := 3, pos := "exact.go:287", after := #[], guard := none }) (v := ?_) rfl (by kernel_rfl) (by kernel_rfl) (by kernel_rfl) (fun _ _ _ h => h) (Or.inl ⟨by rfl, ?_⟩) s0 ?_
      rotate_left
      · intro W hSw
        have cc := unhide CF W hSw
        go_simp
        try with_reducible rfl
      simp only [Act.put, List.setIfInBounds_toArray, List.set_cons_zero, List.set_cons_succ]
      refine wpAnyH_take (i := 2) (oi := { dst := some 14, op := Op.indexAddr 31 (Operand.tmp 12) (Operand.tmp 13), type := 0, pos := "exact.go:287", after := #[{ on := 0, ground := Ground.data }, { on := 1, ground := Ground.data }], guard := none }) (v := ?_) rfl (by kernel_rfl) (by kernel_rfl) (by kernel_rfl) (fun _ _ _ h => h) (Or.inl ⟨by rfl, ?_⟩) s0 ?_
      rotate_left
      · intro W hSw
        have cc := unhide CF W hSw
        go_simp
        try with_reducible rfl
      simp only [Act.put, List.setIfInBounds_toArray, List.set_cons_zero, List.set_cons_succ]
      refine wpAnyH_take (i := 3) (oi := { dst := some 15, op := Op.load 9 (Operand.tmp 14), type := 9, pos := "exact.go:287", after := #[{ on := 2, ground := Ground.data }], guard := none }) (v := ?_) rfl (by kernel_rfl) (by kernel_rfl) (by kernel_rfl) (fun _ _ _ h => h) (Or.inl ⟨by rfl, ?_⟩) s0 ?_
      rotate_left
      · intro W hSw
        have cc := unhide CF W hSw
        go_simp
        try with_reducible rfl
      simp only [Act.put, List.setIfInBounds_toArray, List.set_cons_zero, List.set_cons_succ]
      refine wpAnyH_take (i := 4) (oi := { dst := some 16, op := Op.move (Operand.tmp 1), type := 3, pos := "exact.go:287", after := #[], guard := none }) (v := ?_) rfl (by kernel_rfl) (by kernel_rfl) (by kernel_rfl) (fun _ _ _ h => h) (Or.inl ⟨by rfl, ?_⟩) s0 ?_
      rotate_left
      · intro W hSw
        have cc := unhide CF W hSw
        go_simp
        try with_reducible rfl
      simp only [Act.put, List.setIfInBounds_toArray, List.set_cons_zero, List.set_cons_succ]
      refine wpAnyH_one (i := 5) (by kernel_rfl) ?_
      refine wpOp_step (o := { dst := some 17, op := Op.call { callee := Callee.value (Operand.func 56), args := #[Operand.tmp 16], argTypes := #[3] }, type := 9, pos := "exact.go:287", after := #[{ on := 4, ground := Ground.data }], guard := none }) rfl fun K' hK => step_enterW (by rfl) 56 #[.int .i64 (1 + (j : Int))] (by go_simp) ((unhide hm _).mono ?_)
      rintro e w1 ⟨rfl, b1⟩
      have s1 := bl_st b1 s0
      clear b1
      refine ⟨_, rfl, hK _ _ ⟨s1, ?_⟩⟩
      simp only [Act.put, List.setIfInBounds_toArray, List.set_cons_zero, List.set_cons_succ]
      refine wpAnyH_take (i := 6) (oi := { dst := some 18, op := Op.binOp BinOp.neq 9 (Operand.tmp 15) (Operand.tmp 17) 9, type := 4, pos := "exact.go:287", after := #[{ on := 3, ground := Ground.data }, { on := 5, ground := Ground.data }], guard := none }) (v := ?_) rfl (by kernel_rfl) (by kernel_rfl) (by kernel_rfl) (fun _ _ _ h => h) (Or.inl ⟨by rfl, ?_⟩) s1 ?_
      rotate_left
      · intro W hSw
        have cc := unhide CF W hSw
        go_simp
        try with_reducible rfl
      simp only [Act.put, List.setIfInBounds_toArray, List.set_cons_zero, List.set_cons_succ]
      refine wpAnyH_done (by kernel_rfl) ?_ _
      have S1 := hide s1
      clear s1 s0 HB hm CF
      go_wp2
      go_roundw
      case rel => exact ⟨j + 1, unhide HJ, by go_num, by go_num, unhide S1⟩
      case measure => have := unhide HJ; simp [intOf]; omega
    · obtain rfl : j = n := by omega
      have HB := hide hb
      clear hlt hb
      go_wp2
      go_ret
      exact ⟨rfl, unhide HB⟩
theorem held17 (r l : Int) (v : Value) (n : Nat) (w : World) (hv : strsV w v (marksS n)) (hn : n ≤ 2097152) :
    Calls Tryd.prog 17 #[btV r l v, .int .i64 1] w fun e w' => e = .returned (.int .i64 (1 + (n : Int))) ∧ Below w.heap.size w w' := by
  have B1 : Below w.heap.size w (w.alloc (.cells #[.int .i64 r, .int .i64 l, v] 33)) := bl_al (Below.refl _ _)
  have h36 := hide (held36 v n _ (hv.below B1) hn)
  obtain ⟨_, c0, c1, c2⟩ := bc_new w r l v 33
  have HB := hide B1
  obtain ⟨A, cap, rfl, _⟩ := hv
  have n0 : (0 : Int) ≤ (n : Int) := by omega
  have n1 : (n : Int) ≤ 2097152 := by omega
  clear B1
  go_enter Tryd.func17, Tryd.ntmps17
  go_wp2_with fail
  refine (unhide h36).mono ?_
  rintro e w3 ⟨rfl, b3⟩
  have B3 := hide (bl_st b3 (unhide HB))
  clear b3 h36
  go_wp2
  go_ret
  exact ⟨rfl, unhide B3⟩
theorem BC.touch {p lo hi : Nat} {r l : Int} {v u : Value} {W W' : World} (h : BC p r l v W) (ht : Touch u W W') (hl : liesIn lo hi u) (hp : p < lo ∨ hi ≤ p) : BC p r l v W' := by
  have hne : u.ownBlock ≠ some p := fun hg => by have := hl p hg; omega
  have hc : ∀ i, W'.cell? ⟨p, i, none⟩ = W.cell? ⟨p, i, none⟩ := fun i => by
    unfold World.cell?
    rw [show (⟨p, i, none⟩ : Addr).block = p from rfl, ht.block p hne]
  exact ⟨by rw [ht.size]; exact h.lt, (hc 0).trans h.c0, (hc 1).trans h.c1, (hc 2).trans h.c2⟩
theorem BC.touchS {p lo hi : Nat} {r l : Int} {v u : Value} {W W' : World} (h : BC p r l v W) (ht : TouchS u W W') (hl : liesIn lo hi u) (hp : p < lo ∨ hi ≤ p) : BC p r l v W' := by
  have hne : u.ownBlock ≠ some p := fun hg => by have := hl p hg; omega
  have hc : ∀ i, W'.cell? ⟨p, i, none⟩ = W.cell? ⟨p, i, none⟩ := fun i => by
    unfold World.cell?
    rw [show (⟨p, i, none⟩ : Addr).block = p from rfl, ht.block p h.lt hne]
  exact ⟨Nat.lt_of_lt_of_le h.lt ht.size, (hc 0).trans h.c0, (hc 1).trans h.c1, (hc 2).trans h.c2⟩
theorem ownS.touch {lo hi lo' hi' : Nat} {w w' : World} {u v : Value} {ts : List ByteArray} (h : ownS lo hi w u ts) (ht : Touch v w w') (hl : liesIn lo' hi' v) (hd : hi ≤ lo' ∨ hi' ≤ lo) : ownS lo hi w' u ts := by
  obtain h | ⟨g, cap, rest, rfl, hg, hh, hc, hcp⟩ := h
  · exact .inl h
  · refine .inr ⟨g, cap, rest, rfl, hg, hh, (ht.block g ?_).trans hc, hcp⟩
    intro e
    have := hl g e
    omega
theorem ownS.touchS {lo hi lo' hi' : Nat} {w w' : World} {u v : Value} {ts : List ByteArray} (h : ownS lo hi w u ts) (ht : TouchS v w w') (hl : liesIn lo' hi' v) (hd : hi ≤ lo' ∨ hi' ≤ lo) : ownS lo hi w' u ts := by
  obtain h | ⟨g, cap, rest, rfl, hg, hh, hc, hcp⟩ := h
  · exact .inl h
  · refine .inr ⟨g, cap, rest, rfl, hg, hh, (ht.block g (Array.getElem?_eq_some_iff.1 hc).1 ?_).trans hc, hcp⟩
    intro e
    have := hl g e
    omega
end Go.Proofs.YtgdohkemamlnhaaDoor
