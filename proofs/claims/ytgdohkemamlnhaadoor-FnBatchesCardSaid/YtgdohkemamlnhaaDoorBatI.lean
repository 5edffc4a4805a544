/- A batch's bytes, as the program has them. -/
import Derived.Test.YtgdohkemamlnhaaDoorBatB
namespace Go.Proofs.YtgdohkemamlnhaaDoor
open Go.RowKit
set_option maxHeartbeats 4000000
set_option maxRecDepth 20000
theorem cat_own (p n : Nat) (V : Nat → Value) (X : Nat → List Int) (w : World) (hp : p < w.heap.size) (hn : n ≤ 100) (hc : ∀ i, i < n → w.cell? ⟨p, i, none⟩ = some (V i)) (hb : ∀ i, i < n → bytesV w (V i) (X i)) (h0 : 0 < (catL X n).length) (hT : (catL X n).length ≤ 4194304) :
    Calls Tryd.prog 39 #[.slice (some ⟨p, 0, none⟩) n n] w fun e w' => ∃ g c, e = .returned (.slice (some ⟨g, 0, none⟩) (catL X n).length c) ∧ w'.ownsRow w.heap.size 5 1 (.slice (some ⟨g, 0, none⟩) (catL X n).length c) (catL X n).length ((catL X n).map (Value.int .u8)) ∧ Below w.heap.size w w' := by
  have HC := hide hc
  have HB := hide hb
  have H0 := hide h0
  have HT := hide hT
  have HP := hide hp
  have qn : (n : Int) ≤ 100 := by omega
  clear hc hb h0 hT hp hn
  go_enter Tryd.func39, Tryd.ntmps39
  go_wp2
  go_loopw [3, 11] (fun sz i wr => ∃ j : Nat, j ≤ n ∧ i = .int .i64 j ∧ sz = .int .i64 ((catL X j).length : Nat) ∧ wr = w) (fun _ i _ => n - (intOf i).toNat)
  case atStart => exact ⟨0, by omega, rfl, rfl, rfl⟩
  case round =>
    obtain ⟨j, hj, rfl, rfl, hwr⟩ := hrel
    obtain rfl := hwr.symm
    by_cases hlt : j < n
    · obtain ⟨A, cap, hv, _, _⟩ := unhide HB j hlt
      have p0 := unhide HC j hlt
      rw [hv] at p0
      have q1 : (j : Int) < (n : Int) := by omega
      have q0 : (0 : Int) ≤ (j : Int) := by omega
      have e := catL_mono X (show j + 1 ≤ n from hlt)
      have T := unhide HT
      have E : (catL X (j + 1)).length = (catL X j).length + (X j).length := by simp [catL]
      have s1 : ((catL X j).length : Int) + ((X j).length : Int) ≤ 4194304 := by omega
      have s0 : (0 : Int) ≤ ((catL X j).length : Int) := by omega
      have s2 : (0 : Int) ≤ ((X j).length : Int) := by omega
      have E2 := hide (show ((catL X (j + 1)).length : Int) = ((catL X j).length : Int) + ((X j).length : Int) by omega)
      have HJ := hide hlt
      clear e T E hv hlt hj
      generalize ((catL X j).length : Int) = sj at *
      generalize (X j).length = xj at *
      go_wp2
      go_roundw
      case rel => exact ⟨j + 1, unhide HJ, by go_num, by rw [unhide E2], by first | rfl | trivial⟩
      case measure => have := unhide HJ; simp [intOf]; omega
    · obtain rfl : j = n := by omega
      clear hlt hj
      go_wp2_with (go_at_call 60; refine (grow_any _ (unhide H0) (unhide HT) _).mono ?_; rintro e w1 ⟨g, c, rfl, o1, b1⟩)
      have O1 := hide o1
      have B1 := hide b1
      clear o1 b1
      go_loopw [6, 27] (fun ns i wr2 => ∃ (k g c : Nat), k ≤ j ∧ i = .int .i64 k ∧ ns = .slice (some ⟨g, 0, none⟩) (catL X k).length c ∧ wr2.ownsRow w.heap.size 5 1 (.slice (some ⟨g, 0, none⟩) (catL X k).length c) (catL X k).length ((catL X k).map (Value.int .u8)) ∧ Below w.heap.size w wr2) (fun _ i _ => j - (intOf i).toNat)
      case atStart => exact ⟨0, g, c, by omega, rfl, rfl, unhide O1, unhide B1⟩
      case round =>
        obtain ⟨k, g', c', hk, rfl, rfl, o2, b2⟩ := hrel
        by_cases hlt : k < j
        · obtain ⟨A, cap, hv, hxb, hcl⟩ := (unhide HB k hlt).below b2
          have p0 := (cell_below b2 (unhide HP)).trans (unhide HC k hlt)
          rw [hv] at p0
          have q1 : (k : Int) < (j : Int) := by omega
          have q0 : (0 : Int) ≤ (k : Int) := by omega
          have e := catL_mono X (show k + 1 ≤ j from hlt)
          have T := unhide HT
          have E : (catL X (k + 1)).length = (catL X k).length + (X k).length := by simp [catL]
          have s1 : (catL X k).length + (X k).length ≤ 4194304 := by omega
          have S1 := hide s1
          have HV : Hid (bytesV _ (.slice A (X k).length cap) (X k)) := hide ⟨A, cap, rfl, hxb, hcl⟩
          have O2 := hide o2
          have B2 := hide b2
          have HJ := hide hlt
          clear e T E hv hlt hk s1 hxb hcl o2 b2
          go_wp2_with (at_builtin; refine wpList_append_bytes _ rfl _ _ rfl w.heap.size (catL X k).length _ (catL X k) rfl (unhide O2) ⟨_, _, rfl⟩ _ (X k) rfl (unhide HV) (unhide S1) (unhide B2).size ?_; intro g3 c3 w3 o3 gr3)
          have b3 : Below w.heap.size w w3 := Below.grown (unhide B2) gr3 (unhide B2).size fun k' hk' => ((unhide O2).lt k' hk').1
          go_roundw
          case rel =>
            have e : (catL X k).length + (X k).length = (catL X (k + 1)).length := by simp [catL]
            rw [e] at o3 ⊢
            exact ⟨k + 1, g3, c3, unhide HJ, by go_num, rfl, o3, b3⟩
          case measure => have := unhide HJ; simp [intOf]; omega
        · obtain rfl : k = j := by omega
          have O2 := hide o2
          have B2 := hide b2
          clear hlt hk o2 b2
          go_wp2
          go_ret
          exact ⟨_, _, rfl, unhide O2, unhide B2⟩
theorem cat4 (W : World) (q : Nat) (v0 v1 v2 v3 : Value) (x0 x1 x2 x3 : List Int) (hq : W.heap[q]? = some (.cells #[v0, v1, v2, v3] 22 (0, 0))) (b0 : bytesV W v0 x0) (b1 : bytesV W v1 x1) (b2 : bytesV W v2 x2) (b3 : bytesV W v3 x3) (n : Nat) (hn : (x0 ++ x1 ++ x2 ++ x3).length = n)
    (h0 : 0 < n) (hT : n ≤ 4194304) :
    Calls Tryd.prog 39 #[.slice (some ⟨q, 0, none⟩) 4 4] W fun e w' => ∃ g c, e = .returned (.slice (some ⟨g, 0, none⟩) n c) ∧ w'.ownsRow W.heap.size 5 1 (.slice (some ⟨g, 0, none⟩) n c) n ((x0 ++ x1 ++ x2 ++ x3).map (Value.int .u8)) ∧ Below W.heap.size W w' := by
  have e : catL (fun i => [x0, x1, x2, x3].getD i []) 4 = x0 ++ x1 ++ x2 ++ x3 := by simp [catL]
  have := cat_own q 4 (fun i => [v0, v1, v2, v3].getD i undef) (fun i => [x0, x1, x2, x3].getD i []) W (Array.getElem?_eq_some_iff.1 hq).1 (by omega)
    (fun i hi => by
      rw [Go.cell_of_row _ _ _ _ _ _ hq]
      obtain rfl | rfl | rfl | rfl : i = 0 ∨ i = 1 ∨ i = 2 ∨ i = 3 := by omega
      all_goals rfl)
    (fun i hi => by
      obtain rfl | rfl | rfl | rfl : i = 0 ∨ i = 1 ∨ i = 2 ∨ i = 3 := by omega
      all_goals assumption) (by rw [e, hn]; exact h0) (by rw [e, hn]; exact hT)
  rw [e, hn] at this
  exact this
theorem bbI (r l : Int) (v : Value) (ts : List ByteArray) (w : World) (hv : strsV w v ts) (hs : ∀ t ∈ ts, t.size ≤ maxLen) (hl : ts.length ≤ 2097152) :
    Calls Tryd.prog 24 #[btV r l v] w fun e w' => ∃ u, e = .returned (.tuple #[u, .int .i64 (btC r l ts)]) ∧ ownB w.heap.size w' u (btL r l ts) ∧ Below w.heap.size w w' := by
  have B0 : Below w.heap.size w (w.alloc (.cells #[.int .i64 r, .int .i64 l, v] 33)) := bl_al (Below.refl _ _)
  have HB0 := hide B0
  have HBC := hide (bc_new w r l v 33)
  have h31 := hide (bo31 r l v ts _ (hv.below B0) hs hl)
  have HV := hide (hv.below B0)
  obtain ⟨A, cap, rfl, _⟩ := hv
  clear B0 hs
  obtain ⟨_, d0, d1, d2⟩ := unhide HBC
  cases ok : okB r l ts
  · have eL : btL r l ts = [] := by unfold btL; rw [if_neg (by simp [ok])]
    have eC : btC r l ts = 1 := by unfold btC; rw [if_neg (by simp [ok])]
    rw [eL, eC]
    rw [ok] at h31
    clear eL eC ok hl
    go_enter Tryd.func24, Tryd.ntmps24
    go_wp2_with fail
    refine (unhide h31).mono ?_
    rintro e w1 ⟨rfl, b1⟩
    have B1 := hide (bl_st b1 (unhide HB0))
    clear b1
    go_wp2
    go_returns
    exact ⟨_, rfl, ⟨(fun x hx => by cases hx), .inl ⟨rfl, rfl⟩⟩, unhide B1⟩
  · have eL : btL r l ts = bB r l ts := by unfold btL; rw [if_pos ok]
    have eC : btC r l ts = 0 := by unfold btC; rw [if_pos ok]
    rw [eL, eC]
    obtain ⟨h64, h400, hz, _, _, _⟩ := okB_parts ok
    have H400 := hide h400
    have H64 := hide h64
    rw [ok] at h31
    have n0 : (0 : Int) ≤ (ts.length : Int) := by omega
    have n1 : (ts.length : Int) ≤ 64 := by omega
    have c4 := hide (nb4 r)
    have c1 := hide (nb1 l)
    have cn := hide (nb1 (ts.length : Int))
    have c2 := hide (nb2 (sz0 ts : Int))
    clear eL eC ok hl h64 h400 hz
    go_enter Tryd.func24, Tryd.ntmps24
    go_wp2_with fail
    refine (unhide h31).mono ?_
    rintro e w1 ⟨rfl, b1⟩
    have HBC1 := hide ((unhide HBC).below b1)
    have HV1 := hide ((unhide HV).below b1)
    have B1 := hide (bl_st b1 (unhide HB0))
    obtain ⟨_, e0, e1, e2⟩ := unhide HBC1
    clear b1 h31 HBC HV d0 d1 d2
    go_wp2
    refine wp_region_held (S := fun W' => Below w1.heap.size w1 W') (by kernel_rfl) ?_
    have hS0 : Below w1.heap.size w1 { w1 with drawn := w1.drawn + 1 } := below_drewN (Below.refl _ _) 1
    refine wpAnyH_take (i := 0) (oi := { dst := some 10, op := Op.fieldAddr 33 (Operand.tmp 1) 0, type := 0, pos := "l05_wire.go:187", after := #[], guard := none }) (v := ?_) rfl (by kernel_rfl) (by kernel_rfl) (by kernel_rfl) (fun _ _ _ h => h) (Or.inl ⟨by rfl, ?_⟩) hS0 ?_
    rotate_left
    · intro W hSw
      obtain ⟨_, c0, c1, c2⟩ := (unhide HBC1).below hSw
      go_simp
      try with_reducible rfl
    simp only [Act.put, List.setIfInBounds_toArray, List.set_cons_zero, List.set_cons_succ]
    refine wpAnyH_take (i := 1) (oi := { dst := some 11, op := Op.load 3 (Operand.tmp 10), type := 3, pos := "l05_wire.go:187", after := #[{ on := 0, ground := Ground.data }], guard := none }) (v := ?_) rfl (by kernel_rfl) (by kernel_rfl) (by kernel_rfl) (fun _ _ _ h => h) (Or.inl ⟨by rfl, ?_⟩) hS0 ?_
    rotate_left
    · intro W hSw
      obtain ⟨_, c0, c1, c2⟩ := (unhide HBC1).below hSw
      go_simp
      try with_reducible rfl
    simp only [Act.put, List.setIfInBounds_toArray, List.set_cons_zero, List.set_cons_succ]
    refine wpAnyH_take (i := 3) (oi := { dst := some 13, op := Op.fieldAddr 33 (Operand.tmp 1) 1, type := 0, pos := "l05_wire.go:187", after := #[], guard := none }) (v := ?_) rfl (by kernel_rfl) (by kernel_rfl) (by kernel_rfl) (fun _ _ _ h => h) (Or.inl ⟨by rfl, ?_⟩) hS0 ?_
    rotate_left
    · intro W hSw
      obtain ⟨_, c0, c1, c2⟩ := (unhide HBC1).below hSw
      go_simp
      try with_reducible rfl
    simp only [Act.put, List.setIfInBounds_toArray, List.set_cons_zero, List.set_cons_succ]
    refine wpAnyH_take (i := 4) (oi := { dst := some 14, op := Op.load 3 (Operand.tmp 13), type := 3, pos := "l05_wire.go:187", after := #[{ on := 3, ground := Ground.data }], guard := none }) (v := ?_) rfl (by kernel_rfl) (by kernel_rfl) (by kernel_rfl) (fun _ _ _ h => h) (Or.inl ⟨by rfl, ?_⟩) hS0 ?_
    rotate_left
    · intro W hSw
      obtain ⟨_, c0, c1, c2⟩ := (unhide HBC1).below hSw
      go_simp
      try with_reducible rfl
    simp only [Act.put, List.setIfInBounds_toArray, List.set_cons_zero, List.set_cons_succ]
    refine wpAnyH_take (i := 6) (oi := { dst := some 16, op := Op.fieldAddr 33 (Operand.tmp 1) 2, type := 0, pos := "l05_wire.go:187", after := #[], guard := none }) (v := ?_) rfl (by kernel_rfl) (by kernel_rfl) (by kernel_rfl) (fun _ _ _ h => h) (Or.inl ⟨by rfl, ?_⟩) hS0 ?_
    rotate_left
    · intro W hSw
      obtain ⟨_, c0, c1, c2⟩ := (unhide HBC1).below hSw
      go_simp
      try with_reducible rfl
    simp only [Act.put, List.setIfInBounds_toArray, List.set_cons_zero, List.set_cons_succ]
    refine wpAnyH_take (i := 7) (oi := { dst := some 17, op := Op.load 31 (Operand.tmp 16), type := 31, pos := "l05_wire.go:187", after := #[{ on := 6, ground := Ground.data }], guard := none }) (v := ?_) rfl (by kernel_rfl) (by kernel_rfl) (by kernel_rfl) (fun _ _ _ h => h) (Or.inl ⟨by rfl, ?_⟩) hS0 ?_
    rotate_left
    · intro W hSw
      obtain ⟨_, c0, c1, c2⟩ := (unhide HBC1).below hSw
      go_simp
      try with_reducible rfl
    simp only [Act.put, List.setIfInBounds_toArray, List.set_cons_zero, List.set_cons_succ]
    refine wpAnyH_take (i := 8) (oi := { dst := some 18, op := Op.call { callee := Callee.builtin Builtin.len, args := #[Operand.tmp 17], argTypes := #[31] }, type := 3, pos := "l05_wire.go:187", after := #[{ on := 7, ground := Ground.data }], guard := none }) (v := ?_) rfl (by kernel_rfl) (by kernel_rfl) (by kernel_rfl) (fun _ _ _ h => h) (Or.inl ⟨by rfl, ?_⟩) hS0 ?_
    rotate_left
    · intro W hSw
      obtain ⟨_, c0, c1, c2⟩ := (unhide HBC1).below hSw
      go_simp
      try with_reducible rfl
    simp only [Act.put, List.setIfInBounds_toArray, List.set_cons_zero, List.set_cons_succ]
    refine wpAnyH_take (i := 10) (oi := { dst := some 20, op := Op.fieldAddr 33 (Operand.tmp 1) 2, type := 0, pos := "l05_wire.go:187", after := #[], guard := none }) (v := ?_) rfl (by kernel_rfl) (by kernel_rfl) (by kernel_rfl) (fun _ _ _ h => h) (Or.inl ⟨by rfl, ?_⟩) hS0 ?_
    rotate_left
    · intro W hSw
      obtain ⟨_, c0, c1, c2⟩ := (unhide HBC1).below hSw
      go_simp
      try with_reducible rfl
    simp only [Act.put, List.setIfInBounds_toArray, List.set_cons_zero, List.set_cons_succ]
    refine wpAnyH_take (i := 11) (oi := { dst := some 21, op := Op.load 31 (Operand.tmp 20), type := 31, pos := "l05_wire.go:187", after := #[{ on := 10, ground := Ground.data }], guard := none }) (v := ?_) rfl (by kernel_rfl) (by kernel_rfl) (by kernel_rfl) (fun _ _ _ h => h) (Or.inl ⟨by rfl, ?_⟩) hS0 ?_
    rotate_left
    · intro W hSw
      obtain ⟨_, c0, c1, c2⟩ := (unhide HBC1).below hSw
      go_simp
      try with_reducible rfl
    simp only [Act.put, List.setIfInBounds_toArray, List.set_cons_zero, List.set_cons_succ]
    refine wpAnyH_one (i := 2) (by kernel_rfl) ?_
    refine wpOp_step (o := { dst := some 12, op := Op.call { callee := Callee.value (Operand.func 40), args := #[Operand.tmp 11, Operand.const (Value.int IntKind.i64 4)], argTypes := #[3, 3] }, type := 22, pos := "l05_wire.go:188", after := #[{ on := 1, ground := Ground.data }], guard := none }) rfl fun K' hK => step_enterW (by rfl) 40 #[.int .i64 r, .int .i64 4] (by go_simp) ((unhide c4 _).mono ?_)
    rintro e w2 ⟨v2, rfl, o2, b2⟩
    have s2 := bl_st b2 hS0
    obtain ⟨A2, k2, rfl, hi2, hc2⟩ := o2.bytes
    have x2 : bytesV w2 (.slice A2 (num4 r).length k2) (num4 r) := ⟨A2, k2, rfl, hi2, hc2⟩
    clear o2 hi2 hc2
    refine ⟨_, rfl, hK _ _ ⟨s2, ?_⟩⟩
    simp only [Act.put, List.setIfInBounds_toArray, List.set_cons_zero, List.set_cons_succ]
    refine wpAnyH_one (i := 5) (by kernel_rfl) ?_
    refine wpOp_step (o := { dst := some 15, op := Op.call { callee := Callee.value (Operand.func 40), args := #[Operand.tmp 14, Operand.const (Value.int IntKind.i64 1)], argTypes := #[3, 3] }, type := 22, pos := "l05_wire.go:188", after := #[{ on := 4, ground := Ground.data }, { on := 2, ground := Ground.chain }], guard := none }) rfl fun K' hK => step_enterW (by rfl) 40 #[.int .i64 l, .int .i64 1] (by go_simp) ((unhide c1 _).mono ?_)
    rintro e w3 ⟨v3, rfl, o3, b3⟩
    have s3 := bl_st b3 s2
    obtain ⟨A3, k3, rfl, hi3, hc3⟩ := o3.bytes
    have x3 : bytesV w3 (.slice A3 (num1 l).length k3) (num1 l) := ⟨A3, k3, rfl, hi3, hc3⟩
    clear o3 hi3 hc3
    have y2 := x2.below b3
    clear x2
    refine ⟨_, rfl, hK _ _ ⟨s3, ?_⟩⟩
    simp only [Act.put, List.setIfInBounds_toArray, List.set_cons_zero, List.set_cons_succ]
    refine wpAnyH_one (i := 9) (by kernel_rfl) ?_
    refine wpOp_step (o := { dst := some 19, op := Op.call { callee := Callee.value (Operand.func 40), args := #[Operand.tmp 18, Operand.const (Value.int IntKind.i64 1)], argTypes := #[3, 3] }, type := 22, pos := "l05_wire.go:189", after := #[{ on := 8, ground := Ground.data }, { on := 5, ground := Ground.chain }], guard := none }) rfl fun K' hK => step_enterW (by rfl) 40 #[.int .i64 (ts.length : Int), .int .i64 1] (by go_simp) ((unhide cn _).mono ?_)
    rintro e w4 ⟨v4, rfl, o4, b4⟩
    have s4 := bl_st b4 s3
    obtain ⟨A4, k4, rfl, hi4, hc4⟩ := o4.bytes
    have x4 : bytesV w4 (.slice A4 (num1 (ts.length : Int)).length k4) (num1 (ts.length : Int)) := ⟨A4, k4, rfl, hi4, hc4⟩
    clear o4 hi4 hc4
    have z2 := y2.below b4
    have z3 := x3.below b4
    clear y2 x3
    refine ⟨_, rfl, hK _ _ ⟨s4, ?_⟩⟩
    simp only [Act.put, List.setIfInBounds_toArray, List.set_cons_zero, List.set_cons_succ]
    refine wpAnyH_one (i := 12) (by kernel_rfl) ?_
    refine wpOp_step (o := { dst := some 22, op := Op.call { callee := Callee.value (Operand.func 47), args := #[Operand.tmp 21], argTypes := #[31] }, type := 3, pos := "l05_wire.go:189", after := #[{ on := 11, ground := Ground.data }, { on := 9, ground := Ground.chain }], guard := none }) rfl fun K' hK => step_enterW (by rfl) 47 #[.slice A ts.length cap] (by go_simp) ((so32 _ ts _ ((unhide HV1).below s4)).mono ?_)
    rintro e w5 ⟨rfl, rfl⟩
    skip
    refine ⟨_, rfl, hK _ _ ⟨s4, ?_⟩⟩
    simp only [Act.put, List.setIfInBounds_toArray, List.set_cons_zero, List.set_cons_succ]
    refine wpAnyH_one (i := 13) (by kernel_rfl) ?_
    refine wpOp_step (o := { dst := some 23, op := Op.call { callee := Callee.value (Operand.func 40), args := #[Operand.tmp 22, Operand.const (Value.int IntKind.i64 2)], argTypes := #[3, 3] }, type := 22, pos := "l05_wire.go:189", after := #[{ on := 12, ground := Ground.data }, { on := 12, ground := Ground.chain }], guard := none }) rfl fun K' hK => step_enterW (by rfl) 40 #[.int .i64 (sz0 ts : Int), .int .i64 2] (by go_simp) ((unhide c2 _).mono ?_)
    rintro e w6 ⟨v6, rfl, o6, b6⟩
    have s6 := bl_st b6 s4
    obtain ⟨A6, k6, rfl, hi6, hc6⟩ := o6.bytes
    have x6' : bytesV w6 (.slice A6 (num2 (sz0 ts : Int)).length k6) (num2 (sz0 ts : Int)) := ⟨A6, k6, rfl, hi6, hc6⟩
    clear o6 hi6 hc6
    have x6 := x6'.below (bl_al (o := .cells #[.slice A2 (num4 r).length k2, .slice A3 (num1 l).length k3, .slice A4 (num1 (ts.length : Int)).length k4, .slice A6 (num2 (sz0 ts : Int)).length k6] 22) (Below.refl _ _))
    have q2 := (z2.below b6).below (bl_al (o := .cells #[.slice A2 (num4 r).length k2, .slice A3 (num1 l).length k3, .slice A4 (num1 (ts.length : Int)).length k4, .slice A6 (num2 (sz0 ts : Int)).length k6] 22) (Below.refl _ _))
    have q3 := (z3.below b6).below (bl_al (o := .cells #[.slice A2 (num4 r).length k2, .slice A3 (num1 l).length k3, .slice A4 (num1 (ts.length : Int)).length k4, .slice A6 (num2 (sz0 ts : Int)).length k6] 22) (Below.refl _ _))
    have q4 := (x4.below b6).below (bl_al (o := .cells #[.slice A2 (num4 r).length k2, .slice A3 (num1 l).length k3, .slice A4 (num1 (ts.length : Int)).length k4, .slice A6 (num2 (sz0 ts : Int)).length k6] 22) (Below.refl _ _))
    have hq := heap_at w6 (.cells #[.slice A2 (num4 r).length k2, .slice A3 (num1 l).length k3, .slice A4 (num1 (ts.length : Int)).length k4, .slice A6 (num2 (sz0 ts : Int)).length k6] 22) w6.heap.size rfl
    clear x6' z2 z3 x4
    refine ⟨_, rfl, hK _ _ ⟨s6, ?_⟩⟩
    simp only [Act.put, List.setIfInBounds_toArray, List.set_cons_zero, List.set_cons_succ]
    refine wpAnyH_one (i := 14) (by kernel_rfl) ?_
    refine wpOp_step (o := { dst := some 24, op := Op.buildSlice 83 4 #[(0, Operand.tmp 12), (1, Operand.tmp 15), (2, Operand.tmp 19), (3, Operand.tmp 23)], type := 83, pos := "l05_wire.go:187", after := #[{ on := 2, ground := Ground.data }, { on := 5, ground := Ground.data }, { on := 9, ground := Ground.data }, { on := 13, ground := Ground.data }], guard := none }) rfl fun K' hK => step_valueW (by rfl) (.slice (some ⟨w6.heap.size, 0, none⟩) 4 4) (w6.alloc (.cells #[.slice A2 (num4 r).length k2, .slice A3 (num1 l).length k3, .slice A4 (num1 (ts.length : Int)).length k4, .slice A6 (num2 (sz0 ts : Int)).length k6] 22)) (by go_simp) ?_
    refine hK _ _ ⟨bl_al s6, ?_⟩
    simp only [Act.put, List.setIfInBounds_toArray, List.set_cons_zero, List.set_cons_succ]
    refine wpAnyH_one (i := 15) (by kernel_rfl) ?_
    refine wpOp_step (o := { dst := some 25, op := Op.call { callee := Callee.value (Operand.func 39), args := #[Operand.tmp 24], argTypes := #[83] }, type := 22, pos := "l05_wire.go:187", after := #[{ on := 14, ground := Ground.data }, { on := 13, ground := Ground.chain }], guard := none }) rfl fun K' hK => step_enterW (by rfl) 39 #[.slice (some ⟨w6.heap.size, 0, none⟩) 4 4] (by go_simp) ((cat4 _ w6.heap.size _ _ _ _ _ _ _ _ hq q2 q3 q4 x6 8 rfl (by omega) (by omega)).mono ?_)
    rintro e w7 ⟨g7, c7, rfl, o7, b7⟩
    have s7 := bl_st b7 (bl_al s6)
    have O7 := hide (own_lower o7 (bl_al s6).size)
    have S7 := hide s7
    clear o7 b7 x6 q2 q3 q4 hq
    refine ⟨_, rfl, hK _ _ ⟨s7, ?_⟩⟩
    simp only [Act.put, List.setIfInBounds_toArray, List.set_cons_zero, List.set_cons_succ]
    refine wpAnyH_take (i := 16) (oi := { dst := some 4, op := Op.assign (Operand.tmp 25), type := 22, pos := "l05_wire.go:187", after := #[{ on := 15, ground := Ground.data }, { on := 15, ground := Ground.chain }, { on := 0, ground := Ground.phase }, { on := 1, ground := Ground.phase }, { on := 2, ground := Ground.phase }, { on := 3, ground := Ground.phase }, { on := 4, ground := Ground.phase }, { on := 5, ground := Ground.phase }, { on := 6, ground := Ground.phase }, { on := 7, ground := Ground.phase }, { on := 8, ground := Ground.phase }, { on := 9, ground := Ground.phase }, { on := 10, ground := Ground.phase }, { on := 11, ground := Ground.phase }, { on := 12, ground := Ground.phase }, { on := 13, ground := Ground.phase }, { on := 14, ground := Ground.phase }, { on := 15, ground := Ground.phase }], guard := none }) (v := ?_) rfl (by kernel_rfl) (by kernel_rfl) (by kernel_rfl) (fun _ _ _ h => h) (Or.inl ⟨by rfl, ?_⟩) s7 ?_
    rotate_left
    · intro W hSw
      obtain ⟨_, c0, c1, c2⟩ := (unhide HBC1).below hSw
      go_simp
      try with_reducible rfl
    simp only [Act.put, List.setIfInBounds_toArray, List.set_cons_zero, List.set_cons_succ]
    refine wpAnyH_done (by kernel_rfl) ?_ _
    clear s2 s3 s4 s6 s7 b2 b3 b4 b6 hS0 c4 c1 cn c2
    obtain ⟨_, e0, e1, e2⟩ := (unhide HBC1).below (unhide S7)
    have O8 := hide (show w7.ownsRow w1.heap.size 5 1 (.slice (some ⟨g7, 0, none⟩) 8 c7) 8 ((bH r l ts ++ flatT (ts.take 0)).map (Value.int .u8)) by
      rw [show flatT (ts.take 0) = [] by simp [flatT], List.append_nil, show bH r l ts = num4 r ++ num1 l ++ num1 (ts.length : Int) ++ num2 (sz0 ts : Int) by simp [bH, num1]]
      exact unhide O7)
    clear O7
    go_wp2
    go_loopw [4, 29] (fun ov iv wr => ∃ (j g c : Nat), j ≤ ts.length ∧ iv = .int .i64 j ∧ ov = .slice (some ⟨g, 0, none⟩) (8 + (flatT (ts.take j)).length) c ∧ wr.ownsRow w1.heap.size 5 1 (.slice (some ⟨g, 0, none⟩) (8 + (flatT (ts.take j)).length) c) (8 + (flatT (ts.take j)).length) ((bH r l ts ++ flatT (ts.take j)).map (Value.int .u8)) ∧ Below w1.heap.size w1 wr) (fun _ iv _ => ts.length - (intOf iv).toNat)
    case atStart => exact ⟨0, g7, c7, Nat.zero_le _, rfl, by simp [flatT], by rw [show (flatT (ts.take 0)).length = 0 by simp [flatT]]; exact unhide O8, unhide S7⟩
    case round =>
      obtain ⟨j, g, c, hj, rfl, rfl, own, hb⟩ := hrel
      have LEN := flatT_len ts (unhide H400) j hj
      have L64 := unhide H64
      by_cases hlt : j < ts.length
      · obtain ⟨A', cap', ev, hcc⟩ := (unhide HV1).below hb
        simp only [Value.slice.injEq] at ev
        obtain ⟨rfl, _, rfl⟩ := ev
        obtain ⟨b', off', hA, hbl', hcell'⟩ := hcc (by omega)
        subst hA
        have q1 : (j : Int) < (ts.length : Int) := by omega
        have q0 : (0 : Int) ≤ (j : Int) := by omega
        have p1 := hcell' j hlt
        have E := hide (flatT_take ts j hlt)
        have S4 := unhide H400 (ts.getD j noS) (by rw [List.getD_eq_getElem?_getD, List.getElem?_eq_getElem hlt]; exact List.getElem_mem _)
        have HJ := hide hlt
        have OW := hide own
        have HB := hide hb
        have BND : Hid (8 + (flatT (ts.take j)).length + (ts.getD j noS).size ≤ 4194304) := hide (by omega)
        clear hcell' hcc hlt hj hbl' own hb LEN L64 S4
        generalize ts.getD j noS = t at *
        generalize flatT (ts.take j) = F at *
        go_wp2_with (at_builtin; refine wpList_append_text _ rfl _ _ rfl w1.heap.size (8 + F.length) _ (bH r l ts ++ F) rfl (unhide OW) ⟨_, _, rfl⟩ t rfl (unhide BND) (unhide HB).size ?_; intro g9 c9 w9 o9 gr9)
        have B9 := hide (Below.grown (unhide HB) gr9 (unhide HB).size (fun k hk => ((unhide OW).lt k hk).1))
        have O9 := hide o9
        clear o9 gr9 OW HB
        go_wp2
        go_roundw
        case rel => exact ⟨j + 1, g9, c9, unhide HJ, by go_num, by rw [unhide E, List.length_append, txt_len, Nat.add_assoc], by rw [unhide E, List.length_append, txt_len, ← Nat.add_assoc, ← List.append_assoc]; exact unhide O9, unhide B9⟩
        case measure => have := unhide HJ; simp [intOf]; omega
      · obtain rfl : j = ts.length := by omega
        rw [List.take_length] at own
        have OW := hide own
        have HB := hide hb
        clear own hb hlt LEN
        rw [List.take_length]
        go_wp2
        go_returns
        obtain ⟨g', c', rest, hval, hgb, hgl, hcap, hrow⟩ := own_rowB (unhide OW) ⟨_, _, rfl⟩
        have hlen : (bB r l ts).length = 8 + (flatT ts).length := by unfold bB; rw [List.length_append, bH_len]
        refine ⟨_, rfl, ⟨bB_isB r l ts, .inr ⟨g', c', rest, ?_, Nat.le_trans (unhide B1).size hgb, hrow, ?_⟩⟩, bl_st (unhide HB) (unhide B1)⟩
        · rw [hlen]; exact hval
        · rw [hlen]; exact hcap
end Go.Proofs.YtgdohkemamlnhaaDoor
