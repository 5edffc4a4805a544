/- RouteBack: the specification. -/
import Derived.Test.YtggiijlgdpkkfaaDoorBki
import Derived.OwnWalk
namespace Go.Proofs.YtggiijlgdpkkfaaDoor
open Go.RowKit
set_option maxHeartbeats 4000000
set_option maxRecDepth 20000
theorem convZ (W : World) (g : Nat) (h : W.heap[g]? = some (.cells (Array.replicate 12 (.int .u8 0)) 5 (0, 0))) : (convert 44 9 (.slice (some ⟨g, 0, none⟩) 12 12)).run Tryd.prog W = .ok (.string nonB) W := by
  refine run_convert_bytes_arg _ 44 5 Tryd.underlying44 Tryd.underlying5 g 0 12 12 (List.replicate 12 0) (by simp) ?_ 9 Tryd.underlying9
  intro i hi
  rw [Nat.zero_add, List.getD_eq_getElem?_getD, List.getElem?_replicate, if_pos hi, row_cell h]
  show (Array.replicate 12 (Value.int .u8 0))[i]? = _
  rw [Array.getElem?_replicate, if_pos hi]
  rfl
theorem run_mkop (o : Oper) (a : Act) (w : World) (ho : o.op = .makeSlice 44 (.const (.int .i64 12)) (.const (.int .i64 12))) : (execOp a.eval o).run Tryd.prog w = .ok (.value (.slice (some ⟨w.heap.size, 0, none⟩) 12 12)) (w.alloc (.cells (Array.replicate 12 (.int .u8 0)) 5)) := by
  unfold execOp
  simp only [ho, Act.eval, Sem.run_bind, make12, Result.andThen_ok, Sem.run_pure]
theorem run_zop (x : Operand) (o : Oper) (a : Act) (w : World) (g : Nat) (ho : o.op = .convert 44 9 x) (hx : a.eval x = .slice (some ⟨g, 0, none⟩) 12 12) (h : w.heap[g]? = some (.cells (Array.replicate 12 (.int .u8 0)) 5 (0, 0))) : (execOp a.eval o).run Tryd.prog w = .ok (.value (.string nonB)) w := by
  unfold execOp
  simp only [ho, hx, Sem.run_bind, convZ w g h, Result.andThen_ok, Sem.run_pure]
theorem back18 (v vb : Value) (x : Mx) (m : Nat) (bs : List ByteArray) (w : World) (hv : mxV w v x) (hb : strsV w vb bs) (hg : bkC x (m : Int) bs = 0) :
    Calls Tryd.prog 18 #[v, .int .i64 (m : Int), vb] w fun e w' => ∃ r, e = .returned r ∧ ownS w.heap.size w'.heap.size w' r (bkF x.f x.r bs (List.replicate m noS)) ∧ Below w.heap.size w w' := by
  obtain ⟨i, r, f, s, rfl, hi, hr, hf, hs⟩ := hv
  obtain ⟨xi, xr, xf, xs, xb, xa⟩ := x
  dsimp only [mxN] at *
  have B0 : Below w.heap.size w (w.alloc (.cells #[i, r, f, s, .int .i64 xb, .int .i64 xa] 30)) := bl_al (Below.refl _ _)
  have C0 := mc_new w i r f s xb xa 30
  have HC1 := hide C0
  have HB1 := hide B0
  obtain ⟨⟨hc0, hc16⟩, g1, g2, g3, g4, g5⟩ := bkC_ok hg
  dsimp only at g1 g2 g3 g4 g5
  rw [Int.toNat_natCast] at g5
  have HR := hide hr
  have HF := hide hf
  have HBD := hide hb
  obtain ⟨A1, d1, rfl⟩ := hi.slice
  obtain ⟨A2, d2, rfl⟩ := hr.slice
  obtain ⟨A3, d3, rfl⟩ := hf.slice
  obtain ⟨A4, d4, rfl⟩ := hs.slice
  obtain ⟨A5, d5, rfl⟩ := hb.slice
  have W1 := hide (wyB_each g5)
  have I1 := hide (fun j hj => itB_at g4 j hj)
  have L1 := hide (And.intro g1 (And.intro g2 g3))
  have mk := make_strs m (by omega)
  have l1 : (xf.length : Int) ≤ 16 := by omega
  have l0 : (0 : Int) ≤ (xf.length : Int) := by omega
  have HZ1 : Hid ((w.alloc (.cells #[.slice A1 xi.length d1, .slice A2 xr.length d2, .slice A3 xf.length d3, .slice A4 xs.length d4, .int .i64 xb, .int .i64 xa] 30)).heap.size = w.heap.size + 1) := hide (by simp)
  clear hi hr hf hs hb B0 hg g4 g5 C0
  rw [g2, g3] at *
  clear g1 g2 g3
  go_enter Tryd.func18, Tryd.ntmps18
  go_wp2
  rw [← unhide HZ1]
  generalize w.alloc (.cells #[.slice A1 xi.length d1, .slice A2 xf.length d2, .slice A3 xf.length d3, .slice A4 xs.length d4, .int .i64 xb, .int .i64 xa] 30) = w1 at *
  clear mk
  go_loopw [8] (fun i wr => ∃ (j : Nat) (o : List ByteArray), j ≤ xf.length ∧ i = .int .i64 j ∧ o.length = m ∧ bkF (xf.drop j) (xr.drop j) (bs.drop j) o = bkF xf xr bs (List.replicate m noS) ∧ wr.heap[w1.heap.size]? = some (strO o []) ∧ Below w1.heap.size w1 wr) (fun i _ => xf.length - (intOf i).toNat)
  case atStart => exact ⟨0, _, by omega, rfl, by simp, rfl, heap_at _ _ _ rfl, bl_al (Below.refl _ _)⟩
  case round =>
    obtain ⟨j, o, hj, rfl, ho, hbk, hrow, hbl⟩ := hrel
    obtain ⟨_, c0, c1, c2, c3, c4, c5⟩ := (unhide HC1).below hbl
    by_cases hlt : j < xf.length
    · rw [bkF_drop hlt] at hbk
      have q1 : (j : Int) < (xf.length : Int) := by omega
      have q0 : (0 : Int) ≤ (j : Int) := by omega
      obtain ⟨_, _, ef, hcf⟩ := (unhide HF).below (unhide HB1)
      obtain ⟨_, _, er, hcr⟩ := (unhide HR).below (unhide HB1)
      obtain ⟨_, _, eb, hcb⟩ := (unhide HBD).below (unhide HB1)
      simp only [Value.slice.injEq] at ef er eb
      obtain ⟨rfl, _, rfl⟩ := ef
      obtain ⟨rfl, er1, rfl⟩ := er
      obtain ⟨rfl, eb1, rfl⟩ := eb
      have lr := (unhide L1).2.1
      have lb := (unhide L1).2.2
      obtain ⟨bf, of, hA3, hbf, hcf2⟩ := hcf (by omega)
      obtain ⟨br, orr, hA2, hbr, hcr2⟩ := hcr (by omega)
      obtain ⟨bd, od, hA5, hbd, hcb2⟩ := hcb (by omega)
      subst hA3 hA2 hA5
      have pf : wr.cell? ⟨bf, of + j, none⟩ = some (.int .i64 (xf.getD j 0)) := (cell_below hbl hbf).trans (hcf2 j hlt)
      have hw := unhide W1 j hlt
      have hsz := unhide I1 j (by omega)
      have CR : Hid (∀ W, Below w1.heap.size w1 W → W.cell? ⟨br, orr + j, none⟩ = some (.string (xr.getD j noS))) := hide fun W h => (cell_below h hbr).trans (hcr2 j (by omega))
      have CB : Hid (∀ W, Below w1.heap.size w1 W → W.cell? ⟨bd, od + j, none⟩ = some (.string (bs.getD j noS))) := hide fun W h => (cell_below h hbd).trans (hcb2 j (by omega))
      have HJ := hide hlt
      clear hcf hcr hcb hcf2 hcr2 hcb2 hbf hbr hbd hlt hj lr lb er1 eb1
      generalize xf.getD j 0 = x at *
      generalize xr.getD j noS = key at *
      generalize bs.getD j noS = body at *
      have HO := hide ho
      have HRW := hide hrow
      have HBL := hide hbl
      by_cases hx : x = -1
      · subst hx
        rw [if_pos rfl] at hbk
        have HK := hide hbk
        clear hbk ho hrow hbl hw hsz
        go_wp2
        go_roundw
        case rel => exact ⟨j + 1, o, unhide HJ, by go_num, unhide HO, unhide HK, unhide HRW, unhide HBL⟩
        case measure => have := unhide HJ; simp [intOf]; omega
      · rw [if_neg hx] at hbk
        obtain ⟨x0, x1, hk32⟩ := Or.resolve_left hw hx
        obtain ⟨k, rfl⟩ : ∃ k : Nat, x = (k : Int) := ⟨x.toNat, by omega⟩
        rw [Int.toNat_natCast] at hbk
        have HK := hide hbk
        have KR : Hid (∀ W u, Below w1.heap.size w1 W → bytesV W u (txt body) → Calls Tryd.prog 25 #[.string key, .string nonB, .int .i64 0, u] W fun e w' => ∃ r, e = .returned r ∧ ownB W.heap.size w' r (xorL key nonB 0 (txt body)) ∧ Below W.heap.size W w') := hide fun W u _ hu => xor27 key nonB hk32 nonB_size 0 (by decide) (by decide) (txt body) (by rw [txt_len]; omega) u W hu
        have HKL : Hid (k < o.length) := hide (by omega)
        clear hbk ho hrow hbl hw hsz hx hk32
        go_wp2
        clear c0 c1 c2 c3 c4 c5
        refine wp_region_held (S := fun W' => Below w1.heap.size w1 W') (by kernel_rfl) ?_
        have hS0 : Below w1.heap.size w1 { wr with drawn := wr.drawn + 1 } := below_drewN (unhide HBL) 1
        have HR0 : Hid (({ wr with drawn := wr.drawn + 1 } : World).heap[w1.heap.size]? = some (strO o [])) := HRW
        refine wpAnyH_take (i := 0) (oi := { dst := some 26, op := Op.move (Operand.tmp 7), type := 22, pos := "l11_mix.go:205", after := #[], guard := none }) (v := ?_) rfl (by kernel_rfl) (by kernel_rfl) (by kernel_rfl) (fun _ _ _ h => h) (Or.inl ⟨by rfl, ?_⟩) hS0 ?_
        rotate_left
        · intro W hSw
          obtain ⟨_, c0, c1, c2, c3, c4, c5⟩ := (unhide HC1).below hSw
          have pr := unhide CR W hSw
          have pb := unhide CB W hSw
          go_simp
          try with_reducible rfl
        simp only [Act.put, List.setIfInBounds_toArray, List.set_cons_zero, List.set_cons_succ]
        refine wpAnyH_take (i := 1) (oi := { dst := some 27, op := Op.move (Operand.tmp 9), type := 3, pos := "l11_mix.go:205", after := #[], guard := none }) (v := ?_) rfl (by kernel_rfl) (by kernel_rfl) (by kernel_rfl) (fun _ _ _ h => h) (Or.inl ⟨by rfl, ?_⟩) hS0 ?_
        rotate_left
        · intro W hSw
          obtain ⟨_, c0, c1, c2, c3, c4, c5⟩ := (unhide HC1).below hSw
          have pr := unhide CR W hSw
          have pb := unhide CB W hSw
          go_simp
          try with_reducible rfl
        simp only [Act.put, List.setIfInBounds_toArray, List.set_cons_zero, List.set_cons_succ]
        refine wpAnyH_take (i := 2) (oi := { dst := some 28, op := Op.fieldAddr 30 (Operand.tmp 3) 1, type := 0, pos := "l11_mix.go:205", after := #[], guard := none }) (v := ?_) rfl (by kernel_rfl) (by kernel_rfl) (by kernel_rfl) (fun _ _ _ h => h) (Or.inl ⟨by rfl, ?_⟩) hS0 ?_
        rotate_left
        · intro W hSw
          obtain ⟨_, c0, c1, c2, c3, c4, c5⟩ := (unhide HC1).below hSw
          have pr := unhide CR W hSw
          have pb := unhide CB W hSw
          go_simp
          try with_reducible rfl
        simp only [Act.put, List.setIfInBounds_toArray, List.set_cons_zero, List.set_cons_succ]
        refine wpAnyH_take (i := 3) (oi := { dst := some 29, op := Op.load 22 (Operand.tmp 28), type := 22, pos := "l11_mix.go:205", after := #[{ on := 2, ground := Ground.data }], guard := none }) (v := ?_) rfl (by kernel_rfl) (by kernel_rfl) (by kernel_rfl) (fun _ _ _ h => h) (Or.inl ⟨by rfl, ?_⟩) hS0 ?_
        rotate_left
        · intro W hSw
          obtain ⟨_, c0, c1, c2, c3, c4, c5⟩ := (unhide HC1).below hSw
          have pr := unhide CR W hSw
          have pb := unhide CB W hSw
          go_simp
          try with_reducible rfl
        simp only [Act.put, List.setIfInBounds_toArray, List.set_cons_zero, List.set_cons_succ]
        refine wpAnyH_take (i := 4) (oi := { dst := some 30, op := Op.move (Operand.tmp 8), type := 3, pos := "l11_mix.go:205", after := #[], guard := none }) (v := ?_) rfl (by kernel_rfl) (by kernel_rfl) (by kernel_rfl) (fun _ _ _ h => h) (Or.inl ⟨by rfl, ?_⟩) hS0 ?_
        rotate_left
        · intro W hSw
          obtain ⟨_, c0, c1, c2, c3, c4, c5⟩ := (unhide HC1).below hSw
          have pr := unhide CR W hSw
          have pb := unhide CB W hSw
          go_simp
          try with_reducible rfl
        simp only [Act.put, List.setIfInBounds_toArray, List.set_cons_zero, List.set_cons_succ]
        refine wpAnyH_take (i := 5) (oi := { dst := some 31, op := Op.indexAddr 22 (Operand.tmp 29) (Operand.tmp 30), type := 0, pos := "l11_mix.go:205", after := #[{ on := 3, ground := Ground.data }, { on := 4, ground := Ground.data }], guard := none }) (v := ?_) rfl (by kernel_rfl) (by kernel_rfl) (by kernel_rfl) (fun _ _ _ h => h) (Or.inl ⟨by rfl, ?_⟩) hS0 ?_
        rotate_left
        · intro W hSw
          obtain ⟨_, c0, c1, c2, c3, c4, c5⟩ := (unhide HC1).below hSw
          have pr := unhide CR W hSw
          have pb := unhide CB W hSw
          go_simp
          try with_reducible rfl
        simp only [Act.put, List.setIfInBounds_toArray, List.set_cons_zero, List.set_cons_succ]
        refine wpAnyH_take (i := 6) (oi := { dst := some 32, op := Op.load 9 (Operand.tmp 31), type := 9, pos := "l11_mix.go:205", after := #[{ on := 5, ground := Ground.data }], guard := none }) (v := ?_) rfl (by kernel_rfl) (by kernel_rfl) (by kernel_rfl) (fun _ _ _ h => h) (Or.inl ⟨by rfl, ?_⟩) hS0 ?_
        rotate_left
        · intro W hSw
          obtain ⟨_, c0, c1, c2, c3, c4, c5⟩ := (unhide HC1).below hSw
          have pr := unhide CR W hSw
          have pb := unhide CB W hSw
          go_simp
          try with_reducible rfl
        simp only [Act.put, List.setIfInBounds_toArray, List.set_cons_zero, List.set_cons_succ]
        refine wpAnyH_take (i := 9) (oi := { dst := some 35, op := Op.move (Operand.tmp 2), type := 22, pos := "l11_mix.go:205", after := #[], guard := none }) (v := ?_) rfl (by kernel_rfl) (by kernel_rfl) (by kernel_rfl) (fun _ _ _ h => h) (Or.inl ⟨by rfl, ?_⟩) hS0 ?_
        rotate_left
        · intro W hSw
          obtain ⟨_, c0, c1, c2, c3, c4, c5⟩ := (unhide HC1).below hSw
          have pr := unhide CR W hSw
          have pb := unhide CB W hSw
          go_simp
          try with_reducible rfl
        simp only [Act.put, List.setIfInBounds_toArray, List.set_cons_zero, List.set_cons_succ]
        refine wpAnyH_take (i := 10) (oi := { dst := some 36, op := Op.move (Operand.tmp 8), type := 3, pos := "l11_mix.go:205", after := #[], guard := none }) (v := ?_) rfl (by kernel_rfl) (by kernel_rfl) (by kernel_rfl) (fun _ _ _ h => h) (Or.inl ⟨by rfl, ?_⟩) hS0 ?_
        rotate_left
        · intro W hSw
          obtain ⟨_, c0, c1, c2, c3, c4, c5⟩ := (unhide HC1).below hSw
          have pr := unhide CR W hSw
          have pb := unhide CB W hSw
          go_simp
          try with_reducible rfl
        simp only [Act.put, List.setIfInBounds_toArray, List.set_cons_zero, List.set_cons_succ]
        refine wpAnyH_take (i := 11) (oi := { dst := some 37, op := Op.indexAddr 22 (Operand.tmp 35) (Operand.tmp 36), type := 0, pos := "l11_mix.go:205", after := #[{ on := 9, ground := Ground.data }, { on := 10, ground := Ground.data }], guard := none }) (v := ?_) rfl (by kernel_rfl) (by kernel_rfl) (by kernel_rfl) (fun _ _ _ h => h) (Or.inl ⟨by rfl, ?_⟩) hS0 ?_
        rotate_left
        · intro W hSw
          obtain ⟨_, c0, c1, c2, c3, c4, c5⟩ := (unhide HC1).below hSw
          have pr := unhide CR W hSw
          have pb := unhide CB W hSw
          go_simp
          try with_reducible rfl
        simp only [Act.put, List.setIfInBounds_toArray, List.set_cons_zero, List.set_cons_succ]
        refine wpAnyH_take (i := 12) (oi := { dst := some 38, op := Op.load 9 (Operand.tmp 37), type := 9, pos := "l11_mix.go:205", after := #[{ on := 11, ground := Ground.data }], guard := none }) (v := ?_) rfl (by kernel_rfl) (by kernel_rfl) (by kernel_rfl) (fun _ _ _ h => h) (Or.inl ⟨by rfl, ?_⟩) hS0 ?_
        rotate_left
        · intro W hSw
          obtain ⟨_, c0, c1, c2, c3, c4, c5⟩ := (unhide HC1).below hSw
          have pr := unhide CR W hSw
          have pb := unhide CB W hSw
          go_simp
          try with_reducible rfl
        simp only [Act.put, List.setIfInBounds_toArray, List.set_cons_zero, List.set_cons_succ]
        generalize ({ wr with drawn := wr.drawn + 1 } : World) = x0_ at *
        refine wpAnyH_two (i := 7) (j := 13) (by kernel_rfl) ?_ ?_
        · refine wpOp_step (o := { dst := some 33, op := Op.makeSlice 44 (Operand.const (Value.int IntKind.i64 12)) (Operand.const (Value.int IntKind.i64 12)), type := 44, pos := "l11_mix.go:205", after := #[], guard := none }) rfl fun K' hK => step_valueW (by rfl) _ _ (run_mkop _ _ x0_ rfl) ?_
          have s1 : Below w1.heap.size w1 (x0_.alloc (.cells (Array.replicate 12 (.int .u8 0)) 5)) := hS0.alloc hS0.size _
          refine hK _ _ ⟨s1, ?_⟩
          simp only [Act.put, List.setIfInBounds_toArray, List.set_cons_zero, List.set_cons_succ]
          have bb : Below x0_.heap.size x0_ (x0_.alloc (.cells (Array.replicate 12 (.int .u8 0)) 5)) := bl_al (Below.refl _ _)
          have R1 : Hid ((x0_.alloc (.cells (Array.replicate 12 (.int .u8 0)) 5)).heap[w1.heap.size]? = some (strO o [])) := hide ((bb.block _ (Array.getElem?_eq_some_iff.1 (unhide HR0)).1).trans (unhide HR0))
          have Z1 : Hid ((x0_.alloc (.cells (Array.replicate 12 (.int .u8 0)) 5)).heap[x0_.heap.size]? = some (.cells (Array.replicate 12 (.int .u8 0)) 5 (0, 0))) := hide (heap_at _ _ _ rfl)
          clear bb
          generalize x0_.heap.size = gz at *
          generalize x0_.alloc (.cells (Array.replicate 12 (.int .u8 0)) 5) = y1 at *
          refine wpAnyH_two (i := 8) (j := 13) (by kernel_rfl) ?_ ?_
          · refine wpOp_step (o := { dst := some 34, op := Op.convert 44 9 (Operand.tmp 33), type := 9, pos := "l11_mix.go:205", after := #[{ on := 7, ground := Ground.data }], guard := none }) rfl fun K' hK => step_valueW (by rfl) (.string nonB) y1 (run_zop _ _ _ y1 gz rfl rfl (unhide Z1)) ?_
            refine hK _ _ ⟨s1, ?_⟩
            simp only [Act.put, List.setIfInBounds_toArray, List.set_cons_zero, List.set_cons_succ]
            refine wpAnyH_one (i := 13) (by kernel_rfl) ?_
            refine wpOp_step (o := { dst := some 39, op := Op.convert 9 44 (Operand.tmp 38), type := 44, pos := "l11_mix.go:205", after := #[{ on := 12, ground := Ground.data }], guard := none }) rfl fun K' hK => step_valueW (by rfl) (.slice (some ⟨y1.heap.size, 0, none⟩) body.size (grownCap y1 body.size 0 5)) (cvW y1 body) (run_cvop _ _ _ y1 body rfl rfl) ?_
            have s2 : Below w1.heap.size w1 (cvW y1 body) := bl_cv s1
            refine hK _ _ ⟨s2, ?_⟩
            simp only [Act.put, List.setIfInBounds_toArray, List.set_cons_zero, List.set_cons_succ]
            have bb : Below y1.heap.size y1 (cvW y1 body) := bl_cv (Below.refl _ _)
            have R2 : Hid ((cvW y1 body).heap[w1.heap.size]? = some (strO o [])) := hide ((bb.block _ (Array.getElem?_eq_some_iff.1 (unhide R1)).1).trans (unhide R1))
            have V2 := hide (by_cv y1 body)
            clear bb
            generalize y1.heap.size = gv at *
            generalize grownCap y1 body.size 0 5 = gc at *
            generalize cvW y1 body = y2 at *
            refine wpAnyH_one (i := 14) (by kernel_rfl) ?_
            refine wpOp_step (o := { dst := some 40, op := Op.call { callee := Callee.value (Operand.func 25), args := #[Operand.tmp 32, Operand.tmp 34, Operand.const (Value.int IntKind.i64 0), Operand.tmp 39], argTypes := #[9, 9, 3, 44] }, type := 44, pos := "l11_mix.go:205", after := #[{ on := 6, ground := Ground.data }, { on := 8, ground := Ground.data }, { on := 13, ground := Ground.data }], guard := none }) rfl fun K' hK => step_enterW (by rfl) 25 #[.string key, .string nonB, .int .i64 0, .slice (some ⟨gv, 0, none⟩) body.size gc] (by go_simp) ((unhide KR _ _ s2 (unhide V2)).mono ?_)
            rintro e x2 ⟨u2, rfl, o2, b2⟩
            have s12 := bl_st b2 s2
            have R12 := hide ((b2.block _ (Array.getElem?_eq_some_iff.1 (unhide R2)).1).trans (unhide R2))
            clear b2
            refine ⟨_, rfl, hK _ _ ⟨s12, ?_⟩⟩
            simp only [Act.put, List.setIfInBounds_toArray, List.set_cons_zero, List.set_cons_succ]
            refine wpAnyH_one (i := 15) (by kernel_rfl) ?_
            refine wpOp_step (o := { dst := some 41, op := Op.convert 44 9 (Operand.tmp 40), type := 9, pos := "l11_mix.go:205", after := #[{ on := 14, ground := Ground.data }], guard := none }) rfl fun K' hK => step_valueW (by rfl) (.string (strOfNums (xorL key nonB 0 (txt body)))) x2 (run_strop _ _ _ x2 u2 _ _ rfl rfl o2) ?_
            refine hK _ _ ⟨s12, ?_⟩
            simp only [Act.put, List.setIfInBounds_toArray, List.set_cons_zero, List.set_cons_succ]
            have hrp : strOfNums (xorL key nonB 0 (txt body)) = rpT key body := rfl
            rw [hrp]
            clear o2 hrp
            generalize rpT key body = T at *
            refine wpAnyH_take (i := 16) (oi := { dst := some 42, op := Op.indexAddr 22 (Operand.tmp 26) (Operand.tmp 27), type := 0, pos := "l11_mix.go:205", after := #[{ on := 0, ground := Ground.data }, { on := 1, ground := Ground.data }, { on := 0, ground := Ground.phase }, { on := 1, ground := Ground.phase }, { on := 2, ground := Ground.phase }, { on := 3, ground := Ground.phase }, { on := 4, ground := Ground.phase }, { on := 5, ground := Ground.phase }, { on := 6, ground := Ground.phase }, { on := 7, ground := Ground.phase }, { on := 8, ground := Ground.phase }, { on := 9, ground := Ground.phase }, { on := 10, ground := Ground.phase }, { on := 11, ground := Ground.phase }, { on := 12, ground := Ground.phase }, { on := 13, ground := Ground.phase }, { on := 14, ground := Ground.phase }, { on := 15, ground := Ground.phase }], guard := none }) (v := ?_) rfl (by kernel_rfl) (by kernel_rfl) (by kernel_rfl) (fun _ _ _ h => h) (Or.inl ⟨by rfl, ?_⟩) s12 ?_
            rotate_left
            · intro W hSw
              have m1 : (k : Int) < (m : Int) := x1
              go_simp
              try with_reducible rfl
            simp only [Act.put, List.setIfInBounds_toArray, List.set_cons_zero, List.set_cons_succ]
            have p1 := cell_strO (unhide R12) k (unhide HKL)
            have p2 := free_strO (unhide R12) k
            have s15 : Below w1.heap.size w1 (x2.setCell ⟨w1.heap.size, k, none⟩ (.string T)) := bl_set s12 (Nat.le_refl _)
            have R15 := hide (set_strO (unhide R12) k T (unhide HKL))
            generalize o.getD k noS = old at *
            refine wpAnyH_one (i := 17) (by kernel_rfl) ?_
            refine wpOp_step (o := { dst := none, op := Op.store 9 (Operand.tmp 42) (Operand.tmp 41), type := 0, pos := "l11_mix.go:205", after := #[{ on := 16, ground := Ground.data }, { on := 15, ground := Ground.data }, { on := 14, ground := Ground.chain }, { on := 0, ground := Ground.phase }, { on := 1, ground := Ground.phase }, { on := 2, ground := Ground.phase }, { on := 3, ground := Ground.phase }, { on := 4, ground := Ground.phase }, { on := 5, ground := Ground.phase }, { on := 6, ground := Ground.phase }, { on := 7, ground := Ground.phase }, { on := 8, ground := Ground.phase }, { on := 9, ground := Ground.phase }, { on := 10, ground := Ground.phase }, { on := 11, ground := Ground.phase }, { on := 12, ground := Ground.phase }, { on := 13, ground := Ground.phase }, { on := 14, ground := Ground.phase }, { on := 15, ground := Ground.phase }], guard := none }) rfl fun K' hK => step_skipW (by rfl) (x2.setCell ⟨w1.heap.size, k, none⟩ (.string T)) (by go_simp) ?_
            refine hK _ _ ⟨s15, ?_⟩
            try simp only [Act.put]
            refine wpAnyH_done (by kernel_rfl) ?_ _
            have S15 := hide s15
            have L15 : Hid ((o.set k T).length = m) := hide (by rw [List.length_set]; exact unhide HO)
            clear s15 s12 p1 p2 R12
            generalize o.set k T = o2 at *
            go_wp2
            go_roundw
            case rel => exact ⟨j + 1, o2, unhide HJ, by go_num, unhide L15, unhide HK, unhide R15, unhide S15⟩
            case measure => have := unhide HJ; simp [intOf]; omega
          · refine wpOp_step (o := { dst := some 39, op := Op.convert 9 44 (Operand.tmp 38), type := 44, pos := "l11_mix.go:205", after := #[{ on := 12, ground := Ground.data }], guard := none }) rfl fun K' hK => step_valueW (by rfl) (.slice (some ⟨y1.heap.size, 0, none⟩) body.size (grownCap y1 body.size 0 5)) (cvW y1 body) (run_cvop _ _ _ y1 body rfl rfl) ?_
            have s2 : Below w1.heap.size w1 (cvW y1 body) := bl_cv s1
            refine hK _ _ ⟨s2, ?_⟩
            simp only [Act.put, List.setIfInBounds_toArray, List.set_cons_zero, List.set_cons_succ]
            have bb : Below y1.heap.size y1 (cvW y1 body) := bl_cv (Below.refl _ _)
            have R2 : Hid ((cvW y1 body).heap[w1.heap.size]? = some (strO o [])) := hide ((bb.block _ (Array.getElem?_eq_some_iff.1 (unhide R1)).1).trans (unhide R1))
            have V2 := hide (by_cv y1 body)
            have Z2 := hide ((bb.block _ (Array.getElem?_eq_some_iff.1 (unhide Z1)).1).trans (unhide Z1))
            clear bb
            generalize y1.heap.size = gv at *
            generalize grownCap y1 body.size 0 5 = gc at *
            generalize cvW y1 body = y2 at *
            refine wpAnyH_one (i := 8) (by kernel_rfl) ?_
            refine wpOp_step (o := { dst := some 34, op := Op.convert 44 9 (Operand.tmp 33), type := 9, pos := "l11_mix.go:205", after := #[{ on := 7, ground := Ground.data }], guard := none }) rfl fun K' hK => step_valueW (by rfl) (.string nonB) y2 (run_zop _ _ _ y2 gz rfl rfl (unhide Z2)) ?_
            refine hK _ _ ⟨s2, ?_⟩
            simp only [Act.put, List.setIfInBounds_toArray, List.set_cons_zero, List.set_cons_succ]
            refine wpAnyH_one (i := 14) (by kernel_rfl) ?_
            refine wpOp_step (o := { dst := some 40, op := Op.call { callee := Callee.value (Operand.func 25), args := #[Operand.tmp 32, Operand.tmp 34, Operand.const (Value.int IntKind.i64 0), Operand.tmp 39], argTypes := #[9, 9, 3, 44] }, type := 44, pos := "l11_mix.go:205", after := #[{ on := 6, ground := Ground.data }, { on := 8, ground := Ground.data }, { on := 13, ground := Ground.data }], guard := none }) rfl fun K' hK => step_enterW (by rfl) 25 #[.string key, .string nonB, .int .i64 0, .slice (some ⟨gv, 0, none⟩) body.size gc] (by go_simp) ((unhide KR _ _ s2 (unhide V2)).mono ?_)
            rintro e x2 ⟨u2, rfl, o2, b2⟩
            have s12 := bl_st b2 s2
            have R12 := hide ((b2.block _ (Array.getElem?_eq_some_iff.1 (unhide R2)).1).trans (unhide R2))
            clear b2
            refine ⟨_, rfl, hK _ _ ⟨s12, ?_⟩⟩
            simp only [Act.put, List.setIfInBounds_toArray, List.set_cons_zero, List.set_cons_succ]
            refine wpAnyH_one (i := 15) (by kernel_rfl) ?_
            refine wpOp_step (o := { dst := some 41, op := Op.convert 44 9 (Operand.tmp 40), type := 9, pos := "l11_mix.go:205", after := #[{ on := 14, ground := Ground.data }], guard := none }) rfl fun K' hK => step_valueW (by rfl) (.string (strOfNums (xorL key nonB 0 (txt body)))) x2 (run_strop _ _ _ x2 u2 _ _ rfl rfl o2) ?_
            refine hK _ _ ⟨s12, ?_⟩
            simp only [Act.put, List.setIfInBounds_toArray, List.set_cons_zero, List.set_cons_succ]
            have hrp : strOfNums (xorL key nonB 0 (txt body)) = rpT key body := rfl
            rw [hrp]
            clear o2 hrp
            generalize rpT key body = T at *
            refine wpAnyH_take (i := 16) (oi := { dst := some 42, op := Op.indexAddr 22 (Operand.tmp 26) (Operand.tmp 27), type := 0, pos := "l11_mix.go:205", after := #[{ on := 0, ground := Ground.data }, { on := 1, ground := Ground.data }, { on := 0, ground := Ground.phase }, { on := 1, ground := Ground.phase }, { on := 2, ground := Ground.phase }, { on := 3, ground := Ground.phase }, { on := 4, ground := Ground.phase }, { on := 5, ground := Ground.phase }, { on := 6, ground := Ground.phase }, { on := 7, ground := Ground.phase }, { on := 8, ground := Ground.phase }, { on := 9, ground := Ground.phase }, { on := 10, ground := Ground.phase }, { on := 11, ground := Ground.phase }, { on := 12, ground := Ground.phase }, { on := 13, ground := Ground.phase }, { on := 14, ground := Ground.phase }, { on := 15, ground := Ground.phase }], guard := none }) (v := ?_) rfl (by kernel_rfl) (by kernel_rfl) (by kernel_rfl) (fun _ _ _ h => h) (Or.inl ⟨by rfl, ?_⟩) s12 ?_
            rotate_left
            · intro W hSw
              have m1 : (k : Int) < (m : Int) := x1
              go_simp
              try with_reducible rfl
            simp only [Act.put, List.setIfInBounds_toArray, List.set_cons_zero, List.set_cons_succ]
            have p1 := cell_strO (unhide R12) k (unhide HKL)
            have p2 := free_strO (unhide R12) k
            have s15 : Below w1.heap.size w1 (x2.setCell ⟨w1.heap.size, k, none⟩ (.string T)) := bl_set s12 (Nat.le_refl _)
            have R15 := hide (set_strO (unhide R12) k T (unhide HKL))
            generalize o.getD k noS = old at *
            refine wpAnyH_one (i := 17) (by kernel_rfl) ?_
            refine wpOp_step (o := { dst := none, op := Op.store 9 (Operand.tmp 42) (Operand.tmp 41), type := 0, pos := "l11_mix.go:205", after := #[{ on := 16, ground := Ground.data }, { on := 15, ground := Ground.data }, { on := 14, ground := Ground.chain }, { on := 0, ground := Ground.phase }, { on := 1, ground := Ground.phase }, { on := 2, ground := Ground.phase }, { on := 3, ground := Ground.phase }, { on := 4, ground := Ground.phase }, { on := 5, ground := Ground.phase }, { on := 6, ground := Ground.phase }, { on := 7, ground := Ground.phase }, { on := 8, ground := Ground.phase }, { on := 9, ground := Ground.phase }, { on := 10, ground := Ground.phase }, { on := 11, ground := Ground.phase }, { on := 12, ground := Ground.phase }, { on := 13, ground := Ground.phase }, { on := 14, ground := Ground.phase }, { on := 15, ground := Ground.phase }], guard := none }) rfl fun K' hK => step_skipW (by rfl) (x2.setCell ⟨w1.heap.size, k, none⟩ (.string T)) (by go_simp) ?_
            refine hK _ _ ⟨s15, ?_⟩
            try simp only [Act.put]
            refine wpAnyH_done (by kernel_rfl) ?_ _
            have S15 := hide s15
            have L15 : Hid ((o.set k T).length = m) := hide (by rw [List.length_set]; exact unhide HO)
            clear s15 s12 p1 p2 R12
            generalize o.set k T = o2 at *
            go_wp2
            go_roundw
            case rel => exact ⟨j + 1, o2, unhide HJ, by go_num, unhide L15, unhide HK, unhide R15, unhide S15⟩
            case measure => have := unhide HJ; simp [intOf]; omega
        · refine wpOp_step (o := { dst := some 39, op := Op.convert 9 44 (Operand.tmp 38), type := 44, pos := "l11_mix.go:205", after := #[{ on := 12, ground := Ground.data }], guard := none }) rfl fun K' hK => step_valueW (by rfl) (.slice (some ⟨x0_.heap.size, 0, none⟩) body.size (grownCap x0_ body.size 0 5)) (cvW x0_ body) (run_cvop _ _ _ x0_ body rfl rfl) ?_
          have s1 : Below w1.heap.size w1 (cvW x0_ body) := bl_cv hS0
          refine hK _ _ ⟨s1, ?_⟩
          simp only [Act.put, List.setIfInBounds_toArray, List.set_cons_zero, List.set_cons_succ]
          have bb : Below x0_.heap.size x0_ (cvW x0_ body) := bl_cv (Below.refl _ _)
          have R1 : Hid ((cvW x0_ body).heap[w1.heap.size]? = some (strO o [])) := hide ((bb.block _ (Array.getElem?_eq_some_iff.1 (unhide HR0)).1).trans (unhide HR0))
          have V1 := hide (by_cv x0_ body)
          clear bb
          generalize x0_.heap.size = gv at *
          generalize grownCap x0_ body.size 0 5 = gc at *
          generalize cvW x0_ body = y1 at *
          refine wpAnyH_one (i := 7) (by kernel_rfl) ?_
          refine wpOp_step (o := { dst := some 33, op := Op.makeSlice 44 (Operand.const (Value.int IntKind.i64 12)) (Operand.const (Value.int IntKind.i64 12)), type := 44, pos := "l11_mix.go:205", after := #[], guard := none }) rfl fun K' hK => step_valueW (by rfl) _ _ (run_mkop _ _ y1 rfl) ?_
          have s2 : Below w1.heap.size w1 (y1.alloc (.cells (Array.replicate 12 (.int .u8 0)) 5)) := s1.alloc s1.size _
          refine hK _ _ ⟨s2, ?_⟩
          simp only [Act.put, List.setIfInBounds_toArray, List.set_cons_zero, List.set_cons_succ]
          have bb : Below y1.heap.size y1 (y1.alloc (.cells (Array.replicate 12 (.int .u8 0)) 5)) := bl_al (Below.refl _ _)
          have R2 : Hid ((y1.alloc (.cells (Array.replicate 12 (.int .u8 0)) 5)).heap[w1.heap.size]? = some (strO o [])) := hide ((bb.block _ (Array.getElem?_eq_some_iff.1 (unhide R1)).1).trans (unhide R1))
          have Z2 : Hid ((y1.alloc (.cells (Array.replicate 12 (.int .u8 0)) 5)).heap[y1.heap.size]? = some (.cells (Array.replicate 12 (.int .u8 0)) 5 (0, 0))) := hide (heap_at _ _ _ rfl)
          have V2 := hide ((unhide V1).below bb)
          clear bb
          generalize y1.heap.size = gz at *
          generalize y1.alloc (.cells (Array.replicate 12 (.int .u8 0)) 5) = y2 at *
          refine wpAnyH_one (i := 8) (by kernel_rfl) ?_
          refine wpOp_step (o := { dst := some 34, op := Op.convert 44 9 (Operand.tmp 33), type := 9, pos := "l11_mix.go:205", after := #[{ on := 7, ground := Ground.data }], guard := none }) rfl fun K' hK => step_valueW (by rfl) (.string nonB) y2 (run_zop _ _ _ y2 gz rfl rfl (unhide Z2)) ?_
          refine hK _ _ ⟨s2, ?_⟩
          simp only [Act.put, List.setIfInBounds_toArray, List.set_cons_zero, List.set_cons_succ]
          refine wpAnyH_one (i := 14) (by kernel_rfl) ?_
          refine wpOp_step (o := { dst := some 40, op := Op.call { callee := Callee.value (Operand.func 25), args := #[Operand.tmp 32, Operand.tmp 34, Operand.const (Value.int IntKind.i64 0), Operand.tmp 39], argTypes := #[9, 9, 3, 44] }, type := 44, pos := "l11_mix.go:205", after := #[{ on := 6, ground := Ground.data }, { on := 8, ground := Ground.data }, { on := 13, ground := Ground.data }], guard := none }) rfl fun K' hK => step_enterW (by rfl) 25 #[.string key, .string nonB, .int .i64 0, .slice (some ⟨gv, 0, none⟩) body.size gc] (by go_simp) ((unhide KR _ _ s2 (unhide V2)).mono ?_)
          rintro e x2 ⟨u2, rfl, o2, b2⟩
          have s12 := bl_st b2 s2
          have R12 := hide ((b2.block _ (Array.getElem?_eq_some_iff.1 (unhide R2)).1).trans (unhide R2))
          clear b2
          refine ⟨_, rfl, hK _ _ ⟨s12, ?_⟩⟩
          simp only [Act.put, List.setIfInBounds_toArray, List.set_cons_zero, List.set_cons_succ]
          refine wpAnyH_one (i := 15) (by kernel_rfl) ?_
          refine wpOp_step (o := { dst := some 41, op := Op.convert 44 9 (Operand.tmp 40), type := 9, pos := "l11_mix.go:205", after := #[{ on := 14, ground := Ground.data }], guard := none }) rfl fun K' hK => step_valueW (by rfl) (.string (strOfNums (xorL key nonB 0 (txt body)))) x2 (run_strop _ _ _ x2 u2 _ _ rfl rfl o2) ?_
          refine hK _ _ ⟨s12, ?_⟩
          simp only [Act.put, List.setIfInBounds_toArray, List.set_cons_zero, List.set_cons_succ]
          have hrp : strOfNums (xorL key nonB 0 (txt body)) = rpT key body := rfl
          rw [hrp]
          clear o2 hrp
          generalize rpT key body = T at *
          refine wpAnyH_take (i := 16) (oi := { dst := some 42, op := Op.indexAddr 22 (Operand.tmp 26) (Operand.tmp 27), type := 0, pos := "l11_mix.go:205", after := #[{ on := 0, ground := Ground.data }, { on := 1, ground := Ground.data }, { on := 0, ground := Ground.phase }, { on := 1, ground := Ground.phase }, { on := 2, ground := Ground.phase }, { on := 3, ground := Ground.phase }, { on := 4, ground := Ground.phase }, { on := 5, ground := Ground.phase }, { on := 6, ground := Ground.phase }, { on := 7, ground := Ground.phase }, { on := 8, ground := Ground.phase }, { on := 9, ground := Ground.phase }, { on := 10, ground := Ground.phase }, { on := 11, ground := Ground.phase }, { on := 12, ground := Ground.phase }, { on := 13, ground := Ground.phase }, { on := 14, ground := Ground.phase }, { on := 15, ground := Ground.phase }], guard := none }) (v := ?_) rfl (by kernel_rfl) (by kernel_rfl) (by kernel_rfl) (fun _ _ _ h => h) (Or.inl ⟨by rfl, ?_⟩) s12 ?_
          rotate_left
          · intro W hSw
            have m1 : (k : Int) < (m : Int) := x1
            go_simp
            try with_reducible rfl
          simp only [Act.put, List.setIfInBounds_toArray, List.set_cons_zero, List.set_cons_succ]
          have p1 := cell_strO (unhide R12) k (unhide HKL)
          have p2 := free_strO (unhide R12) k
          have s15 : Below w1.heap.size w1 (x2.setCell ⟨w1.heap.size, k, none⟩ (.string T)) := bl_set s12 (Nat.le_refl _)
          have R15 := hide (set_strO (unhide R12) k T (unhide HKL))
          generalize o.getD k noS = old at *
          refine wpAnyH_one (i := 17) (by kernel_rfl) ?_
          refine wpOp_step (o := { dst := none, op := Op.store 9 (Operand.tmp 42) (Operand.tmp 41), type := 0, pos := "l11_mix.go:205", after := #[{ on := 16, ground := Ground.data }, { on := 15, ground := Ground.data }, { on := 14, ground := Ground.chain }, { on := 0, ground := Ground.phase }, { on := 1, ground := Ground.phase }, { on := 2, ground := Ground.phase }, { on := 3, ground := Ground.phase }, { on := 4, ground := Ground.phase }, { on := 5, ground := Ground.phase }, { on := 6, ground := Ground.phase }, { on := 7, ground := Ground.phase }, { on := 8, ground := Ground.phase }, { on := 9, ground := Ground.phase }, { on := 10, ground := Ground.phase }, { on := 11, ground := Ground.phase }, { on := 12, ground := Ground.phase }, { on := 13, ground := Ground.phase }, { on := 14, ground := Ground.phase }, { on := 15, ground := Ground.phase }], guard := none }) rfl fun K' hK => step_skipW (by rfl) (x2.setCell ⟨w1.heap.size, k, none⟩ (.string T)) (by go_simp) ?_
          refine hK _ _ ⟨s15, ?_⟩
          try simp only [Act.put]
          refine wpAnyH_done (by kernel_rfl) ?_ _
          have S15 := hide s15
          have L15 : Hid ((o.set k T).length = m) := hide (by rw [List.length_set]; exact unhide HO)
          clear s15 s12 p1 p2 R12
          generalize o.set k T = o2 at *
          go_wp2
          go_roundw
          case rel => exact ⟨j + 1, o2, unhide HJ, by go_num, unhide L15, unhide HK, unhide R15, unhide S15⟩
          case measure => have := unhide HJ; simp [intOf]; omega
    · obtain rfl : j = xf.length := by omega
      rw [List.drop_length, bkF] at hbk
      subst hbk
      have HO := hide ho
      have HRW := hide hrow
      have HBL := hide hbl
      clear ho hrow hbl hlt
      go_wp2
      go_ret
      exact ⟨_, rfl, .inr ⟨w1.heap.size, m, [], by rw [unhide HO]; rfl, (unhide HB1).size, (Array.getElem?_eq_some_iff.1 (unhide HRW)).1, unhide HRW, by rw [unhide HO]; exact Nat.le_refl _⟩, bl_st (unhide HBL) (unhide HB1)⟩
end Go.Proofs.YtggiijlgdpkkfaaDoor
