/- The specification's OpenReply. -/
import Derived.Test.YtncplefjokbbjaaDoorOi
import Derived.BigRegion
import Derived.Deep.RegionHeld3
namespace Go.Proofs.YtncplefjokbbjaaDoor
open Go.RowKit
set_option maxHeartbeats 4000000
set_option maxRecDepth 20000
theorem step_skipW {P : Program} {ops : Array Oper} {o : Oper} {a : Act} {w : World} {K : Act → World → Prop} {Q : Exit → Act → World → Prop} {E : Prop} (hw : Region.wanted o (yielded ops a.tmps) = true) (w' : World) (hrun : (execOp a.eval o).run P w = .ok .skip w')
    (h : K (a.put o.dst undef) w') : if Region.wanted o (yielded ops a.tmps) = true then Oper.wp P o a w K Q else E := by
  rw [if_pos hw]
  unfold Oper.wp
  rw [hrun, Oper.upon_skip]
  exact h
theorem step_enterW {P : Program} {ops : Array Oper} {o : Oper} {a : Act} {w : World} {K : Act → World → Prop} {Q : Exit → Act → World → Prop} {E : Prop} (hw : Region.wanted o (yielded ops a.tmps) = true) (f : FuncId) (args : Array Value) (hrun : (execOp a.eval o).run P w = .ok (.enter f args) w)
    (hc : Calls P f args w fun e w' => ∃ v, e = .returned v ∧ K (a.put o.dst v) w') : if Region.wanted o (yielded ops a.tmps) = true then Oper.wp P o a w K Q else E := by
  rw [if_pos hw]
  unfold Oper.wp
  rw [hrun, Oper.upon_enter]
  refine hc.mono fun e w'' hh => ?_
  obtain ⟨v, rfl, hk⟩ := hh
  exact hk
theorem step_valueW {P : Program} {ops : Array Oper} {o : Oper} {a : Act} {w : World} {K : Act → World → Prop} {Q : Exit → Act → World → Prop} {E : Prop} (hw : Region.wanted o (yielded ops a.tmps) = true) (v : Value) (w' : World) (hrun : (execOp a.eval o).run P w = .ok (.value v) w')
    (h : K (a.put o.dst v) w') : if Region.wanted o (yielded ops a.tmps) = true then Oper.wp P o a w K Q else E := by
  rw [if_pos hw]
  unfold Oper.wp
  rw [hrun, Oper.upon_value]
  exact h
theorem wpAnyH_one {P : Program} {md : Region.Mode} {ops : Array Oper} {Q : Exit → Act → World → Prop} {S : World → Prop} {fuel : Nat} {listed : Array Bool} {a : Act} {w : World} {i : Nat} (hr : Region.ready md ops listed = [i])
    (h : wpOp P ops Q i (fun a' w' => S w' ∧ wpAnyH P md ops Q S fuel (listed.setIfInBounds i true) a' w') a w) : wpAnyH P md ops Q S (fuel + 1) listed a w :=
  wpAnyH_all hr (by simp) fun k hk => by
    obtain rfl : k = i := by simpa using hk
    exact h
theorem all_not {ks : List ByteArray} (j : Nat) (hj : j < ks.length) (h : (ks.getD j noS).size ≠ 32) : ks.all isK = false := by
  rw [Bool.eq_false_iff]
  intro ha
  exact h (all_at ha j hj)
theorem all_of {ks : List ByteArray} (h : ∀ i, i < ks.length → (ks.getD i noS).size = 32) : ks.all isK = true := by
  rw [List.all_eq_true]
  intro x hx
  obtain ⟨i, hi, rfl⟩ := List.getElem_of_mem hx
  have := h i hi
  rw [List.getD_eq_getElem?_getD, List.getElem?_eq_getElem hi] at this
  exact decide_eq_true this
theorem own_none' {b : Nat} (w : World) (hb : b ≤ w.heap.size) : ownB b (w.alloc (.cells #[] 5)) (.slice (some ⟨w.heap.size, 0, none⟩) 0 0) [] := (own_none w).lower hb
theorem ret_code {r : Value} {a b : Int} (h : a = b) : Ending.returned (.tuple #[r, .int .i64 a]) = .returned (.tuple #[r, .int .i64 b]) := by rw [h]
theorem spec_OR (ts : List ByteArray) (u : Value) (xs : List Int) (v : Value) (w : World) (hu : strsV w u ts) (hv : bytesV w v xs) (hts : ts.length ≤ 2097152) (hxs : xs.length ≤ 2097152) :
    Calls Tryd.prog 12 #[u, v] w fun e w' => ∃ r, e = .returned (.tuple #[r, .int .i64 (orC ts xs.length)]) ∧ ownB w.heap.size w' r (orL ts xs) ∧ Below w.heap.size w w' := by
  have hA : ∃ A cap, v = .slice A xs.length cap := by obtain ⟨A, cap, h, _⟩ := hv; exact ⟨A, cap, h⟩
  obtain ⟨A, cap, rfl⟩ := hA
  have hA2 : ∃ A cap, u = .slice A ts.length cap := by obtain ⟨A, cap, h, _⟩ := hu; exact ⟨A, cap, h⟩
  obtain ⟨A2, cap2, rfl⟩ := hA2
  have ON := hide (own_none w)
  have BN := hide ((Below.refl w.heap.size w).alloc (Nat.le_refl _) (.cells #[] 5))
  have n0 : (0 : Int) ≤ (ts.length : Int) := by omega
  have n1 : (ts.length : Int) ≤ 2097152 := by omega
  have x0 : (0 : Int) ≤ (xs.length : Int) := by omega
  have x1 : (xs.length : Int) ≤ 2097152 := by omega
  by_cases h2 : 65536 < xs.length
  · have eC : orC ts xs.length = 2 := by unfold orC; rw [if_pos (.inl h2)]
    rw [or_nil eC (by decide), eC]
    have h2' : (65536 : Int) < (xs.length : Int) := by omega
    clear h2 eC hv hu hts hxs
    generalize xs.length = n at *
    generalize ts.length = m at *
    go_enter Tryd.func12, Tryd.ntmps12
    go_wp2
    go_returns
    exact ⟨_, rfl, unhide ON, unhide BN⟩
  have h2' : (xs.length : Int) ≤ 65536 := by omega
  by_cases h1 : 4096 < ts.length
  · have eC : orC ts xs.length = 2 := by unfold orC; rw [if_pos (.inr h1)]
    rw [or_nil eC (by decide), eC]
    have h1' : (4096 : Int) < (ts.length : Int) := by omega
    clear h1 h2 eC hv hu hts hxs
    generalize xs.length = n at *
    generalize ts.length = m at *
    go_enter Tryd.func12, Tryd.ntmps12
    go_wp2
    go_returns
    exact ⟨_, rfl, unhide ON, unhide BN⟩
  have h1' : (ts.length : Int) ≤ 4096 := by omega
  by_cases h3 : 4 < ts.length
  · have eC : orC ts xs.length = 4 := by unfold orC; rw [if_neg (by omega), if_pos h3]
    rw [or_nil eC (by decide), eC]
    have h3' : (4 : Int) < (ts.length : Int) := by omega
    clear h1 h2 h3 eC hv hu hts hxs
    generalize xs.length = n at *
    generalize ts.length = m at *
    go_enter Tryd.func12, Tryd.ntmps12
    go_wp2
    go_returns
    exact ⟨_, rfl, unhide ON, unhide BN⟩
  have h3' : (ts.length : Int) ≤ 4 := by omega
  have HC0 := hide (fun (h : ts.all isK = true) => (show orC ts xs.length = 0 by unfold orC; rw [if_neg (by omega), if_neg h3, h]; rfl))
  have HC1 := hide (fun (h : ts.all isK = false) => (show orC ts xs.length = 1 by unfold orC; rw [if_neg (by omega), if_neg h3, h]; rfl))
  have HL0 := hide (fun (h : orC ts xs.length = 0) => (show orL ts xs = opL ts xs by unfold orL; rw [if_pos h]))
  have HL1 := hide (fun (h : orC ts xs.length = 1) => (show orL ts xs = [] from or_nil h (by decide)))
  have hvw := hide (hv.below (unhide BN))
  have HB : Hid (isB xs) := by obtain ⟨_, _, _, h, _⟩ := hv; exact h
  have HU := hide (fun W (hb : Below w.heap.size w W) => hu.below hb)
  have HX := hide (fun (key : ByteArray) (hk : key.size = 32) (ys : List Int) (hy : ys.length = xs.length) (o : Value) (W : World) (ho : bytesV W o ys) => xor27 key nonB hk nonB_size 0 (by decide) (by decide) ys (by omega) o W ho)
  have HLn := hide (fun j => opL_len (ts.take j) xs)
  have HST := hide (fun j (hj : j < ts.length) => opL_step ts xs j hj)
  have HEND := hide (show opL (ts.take ts.length) xs = opL ts xs by rw [List.take_length])
  have HST0 := hide (show opL (ts.take 0) xs = xs by rfl)
  have HNOT := hide (fun j (hj : j < ts.length) h => all_not (ks := ts) j hj h)
  have HOF := hide (fun h => all_of (ks := ts) h)
  generalize orC ts xs.length = C at *
  generalize orL ts xs = L at *
  generalize hOp : (fun j => opL (ts.take j) xs) = F
  have HF := hide (fun j => (congrFun hOp j : opL (ts.take j) xs = F j))
  have hx4 : Hid (0 + xs.length ≤ 4194304) := hide (by omega)
  clear hOp h1 h2 h3 hv hu hts hxs
  obtain ⟨m, hm⟩ : ∃ m, m = ts.length := ⟨_, rfl⟩
  rw [← hm] at n0 n1 h1' h3' HST HEND HU HNOT HOF ⊢
  have HM := hide hm
  clear hm
  go_enter Tryd.func12, Tryd.ntmps12
  go_wp2_with (at_builtin; refine wpList_append_bytes _ rfl _ _ rfl w.heap.size 0 (.slice (some ⟨w.heap.size, 0, none⟩) 0 0) [] rfl (World.ownsRow_made w #[] 0 (Nat.le_refl _) (Nat.zero_le _) rfl) ⟨_, _, rfl⟩ (.slice A xs.length cap) xs rfl (unhide hvw) (by exact unhide hx4) (by simp) ?_; intro g1 c1 w1 own1 gr1)
  have hb1 : Below w.heap.size w w1 := Below.grown ((Below.refl _ _).alloc (Nat.le_refl _) _) gr1 (by simp) (by simp [Value.ownBlock])
  rw [Nat.zero_add, List.nil_append] at own1
  obtain ⟨g, cap', rest, hval, hgb, hgl, hcap, hrow⟩ := own_rowB own1 ⟨_, _, rfl⟩
  have O1 : Hid (ownB w.heap.size w1 (.slice (some ⟨g1, 0, none⟩) xs.length c1) xs) := hide ⟨unhide HB, .inr ⟨g, cap', rest, hval, hgb, hrow, hcap⟩⟩
  have B1 := hide hb1
  clear own1 gr1 hb1 hgb hgl hrow hval hcap hvw
  go_loopw [6, 7] (fun o i wr => ∃ j : Nat, j ≤ m ∧ i = .int .i64 j ∧ ownB w.heap.size wr o (F j) ∧ (∀ i, i < j → (ts.getD i noS).size = 32) ∧ Below w.heap.size w wr) (fun _ i _ => m - (intOf i).toNat)
  case atStart => exact ⟨0, by omega, rfl, by rw [← unhide HF 0, unhide HST0]; exact unhide O1, fun i hi => absurd hi (Nat.not_lt_zero i), unhide B1⟩
  case round =>
    obtain ⟨j, hj, rfl, ho, hks, hb⟩ := hrel
    by_cases hlt : j < m
    · have q1 : (j : Int) < (m : Int) := by omega
      have q0 : (0 : Int) ≤ (j : Int) := by omega
      have hlt' : j < ts.length := by rw [← unhide HM]; exact hlt
      obtain ⟨bk, off, hAk, hbk, hcj⟩ := strs_cell (unhide HU wr hb) (by omega)
      have p0 := hcj j hlt'
      subst hAk
      have HO := hide ho
      have HKS := hide hks
      have HBW := hide hb
      have HJ := hide hlt
      clear hcj hlt' hlt hj ho hks hb
      by_cases hk : (ts.getD j noS).size = 32
      · have hr := hide (fun W (hW : Below wr.heap.size wr W) => unhide HX (ts.getD j noS) hk (F j) (by rw [← unhide HF j]; exact unhide HLn j) u6 W ((unhide HO).bytes.below hW))
        rw [← unhide HF j, ← unhide HST j (unhide HJ), unhide HF (j + 1)] at hr
        have HK1 : Hid (∀ i, i < j + 1 → (ts.getD i noS).size = 32) := hide (fun i hi => by
          rcases Nat.lt_or_ge i j with h | h
          · exact unhide HKS i h
          · obtain rfl : i = j := by omega
            exact hk)
        have hd : (((ts.getD j noS).size : Int) != 32) = false := by rw [hk]; rfl
        generalize ts.getD j noS = key at *
        clear hk
        go_wp2
        refine wp_region_held (S := fun W' => Below wr.heap.size wr W') (by kernel_rfl) ?_
        have hS0 : Below wr.heap.size wr { wr with drawn := wr.drawn + 1 } := below_drewN (Below.refl _ _) 1
        have s4 : Below wr.heap.size wr (({ wr with drawn := wr.drawn + 1 } : World).alloc (.cells (Array.replicate 12 (.int .u8 0)) 5)) := hS0.alloc (Nat.le_refl _) _
        have m1 : (Instr.makeSlice 22 (.int .i64 12) (.int .i64 12)).run Tryd.prog wr.drew = .ok (.slice (some ⟨wr.heap.size, 0, none⟩) 12 12) (wr.alloc (.cells (Array.replicate 12 (.int .u8 0)) 5)).drew := make12 wr.drew
        have m2 : (convert 22 9 (.slice (some ⟨wr.heap.size, 0, none⟩) 12 12)).run Tryd.prog (wr.alloc (.cells (Array.replicate 12 (.int .u8 0)) 5)).drew = .ok (.string nonB) (wr.alloc (.cells (Array.replicate 12 (.int .u8 0)) 5)).drew := conv12 wr.drew
        refine wpAnyH_take (i := 0) (oi := { dst := some 37, op := Op.move (Operand.tmp 0), type := 29, pos := "l08_onion.go:198", after := #[], guard := none }) (v := ?_) rfl (by kernel_rfl) (by kernel_rfl) (by kernel_rfl) (fun _ _ _ h => h) (Or.inl ⟨by rfl, ?_⟩) hS0 ?_
        rotate_left
        · intro W hSw
          have pW := (cell_below hSw hbk).trans p0
          go_simp
          try with_reducible rfl
        simp only [Act.put, List.setIfInBounds_toArray, List.set_cons_zero, List.set_cons_succ]
        refine wpAnyH_take (i := 1) (oi := { dst := some 38, op := Op.move (Operand.tmp 7), type := 3, pos := "l08_onion.go:198", after := #[], guard := none }) (v := ?_) rfl (by kernel_rfl) (by kernel_rfl) (by kernel_rfl) (fun _ _ _ h => h) (Or.inl ⟨by rfl, ?_⟩) hS0 ?_
        rotate_left
        · intro W hSw
          have pW := (cell_below hSw hbk).trans p0
          go_simp
          try with_reducible rfl
        simp only [Act.put, List.setIfInBounds_toArray, List.set_cons_zero, List.set_cons_succ]
        refine wpAnyH_take (i := 2) (oi := { dst := some 39, op := Op.indexAddr 29 (Operand.tmp 37) (Operand.tmp 38), type := 0, pos := "l08_onion.go:198", after := #[{ on := 0, ground := Ground.data }, { on := 1, ground := Ground.data }], guard := none }) (v := ?_) rfl (by kernel_rfl) (by kernel_rfl) (by kernel_rfl) (fun _ _ _ h => h) (Or.inl ⟨by rfl, ?_⟩) hS0 ?_
        rotate_left
        · intro W hSw
          have pW := (cell_below hSw hbk).trans p0
          go_simp
          try with_reducible rfl
        simp only [Act.put, List.setIfInBounds_toArray, List.set_cons_zero, List.set_cons_succ]
        refine wpAnyH_take (i := 3) (oi := { dst := some 40, op := Op.load 9 (Operand.tmp 39), type := 9, pos := "l08_onion.go:198", after := #[{ on := 2, ground := Ground.data }], guard := none }) (v := ?_) rfl (by kernel_rfl) (by kernel_rfl) (by kernel_rfl) (fun _ _ _ h => h) (Or.inl ⟨by rfl, ?_⟩) hS0 ?_
        rotate_left
        · intro W hSw
          have pW := (cell_below hSw hbk).trans p0
          go_simp
          try with_reducible rfl
        simp only [Act.put, List.setIfInBounds_toArray, List.set_cons_zero, List.set_cons_succ]
        refine wpAnyH_take (i := 6) (oi := { dst := some 43, op := Op.move (Operand.tmp 6), type := 22, pos := "l08_onion.go:198", after := #[], guard := none }) (v := ?_) rfl (by kernel_rfl) (by kernel_rfl) (by kernel_rfl) (fun _ _ _ h => h) (Or.inl ⟨by rfl, ?_⟩) hS0 ?_
        rotate_left
        · intro W hSw
          have pW := (cell_below hSw hbk).trans p0
          go_simp
          try with_reducible rfl
        simp only [Act.put, List.setIfInBounds_toArray, List.set_cons_zero, List.set_cons_succ]
        refine wpAnyH_one (i := 4) (by kernel_rfl) ?_
        refine wpOp_step (o := { dst := some 41, op := Op.makeSlice 22 (Operand.const (Value.int IntKind.i64 12)) (Operand.const (Value.int IntKind.i64 12)), type := 22, pos := "l08_onion.go:198", after := #[], guard := none }) rfl fun K' hK => step_valueW (by rfl) (.slice (some ⟨wr.heap.size, 0, none⟩) 12 12) (({ wr with drawn := wr.drawn + 1 } : World).alloc (.cells (Array.replicate 12 (.int .u8 0)) 5)) (by go_simp) ?_
        refine hK _ _ ⟨s4, ?_⟩
        simp only [Act.put, List.setIfInBounds_toArray, List.set_cons_zero, List.set_cons_succ]
        refine wpAnyH_one (i := 5) (by kernel_rfl) ?_
        refine wpOp_step (o := { dst := some 42, op := Op.convert 22 9 (Operand.tmp 41), type := 9, pos := "l08_onion.go:198", after := #[{ on := 4, ground := Ground.data }], guard := none }) rfl fun K' hK => step_valueW (by rfl) (.string nonB) (({ wr with drawn := wr.drawn + 1 } : World).alloc (.cells (Array.replicate 12 (.int .u8 0)) 5)) (by go_simp) ?_
        refine hK _ _ ⟨s4, ?_⟩
        simp only [Act.put, List.setIfInBounds_toArray, List.set_cons_zero, List.set_cons_succ]
        refine wpAnyH_one (i := 7) (by kernel_rfl) ?_
        refine wpOp_step (o := { dst := some 44, op := Op.call { callee := Callee.value (Operand.func 17), args := #[Operand.tmp 40, Operand.tmp 42, Operand.const (Value.int IntKind.i64 0), Operand.tmp 43], argTypes := #[9, 9, 3, 22] }, type := 22, pos := "l08_onion.go:198", after := #[{ on := 3, ground := Ground.data }, { on := 5, ground := Ground.data }, { on := 6, ground := Ground.data }], guard := none }) rfl fun K' hK => step_enterW (by rfl) 17 #[.string key, .string nonB, .int .i64 0, u6] (by go_simp) ((unhide hr _ s4).mono ?_)
        rintro e w2 ⟨r2, rfl, o2, b2⟩
        have s7 := s4.trans (b2.mono s4.size)
        have O2 := hide (o2.lower (Nat.le_trans (unhide HBW).size s4.size))
        have B2 := hide ((unhide HBW).trans (s7.mono (unhide HBW).size))
        clear o2 b2 m1 m2
        refine ⟨_, rfl, hK _ _ ⟨s7, ?_⟩⟩
        simp only [Act.put, List.setIfInBounds_toArray, List.set_cons_zero, List.set_cons_succ]
        refine wpAnyH_take (i := 8) (oi := { dst := some 6, op := Op.assign (Operand.tmp 44), type := 22, pos := "l08_onion.go:198", after := #[{ on := 7, ground := Ground.data }, { on := 7, ground := Ground.chain }, { on := 0, ground := Ground.phase }, { on := 1, ground := Ground.phase }, { on := 2, ground := Ground.phase }, { on := 3, ground := Ground.phase }, { on := 4, ground := Ground.phase }, { on := 5, ground := Ground.phase }, { on := 6, ground := Ground.phase }, { on := 7, ground := Ground.phase }], guard := none }) (v := ?_) rfl (by kernel_rfl) (by kernel_rfl) (by kernel_rfl) (fun _ _ _ h => h) (Or.inl ⟨by rfl, ?_⟩) s7 ?_
        rotate_left
        · intro W hSw
          go_simp
          try with_reducible rfl
        simp only [Act.put, List.setIfInBounds_toArray, List.set_cons_zero, List.set_cons_succ]
        refine wpAnyH_done (by kernel_rfl) ?_ _
        go_wp2
        go_roundw
        case rel => exact ⟨j + 1, unhide HJ, by go_num, unhide O2, unhide HK1, unhide B2⟩
        case measure => have := unhide HJ; simp [intOf]; omega
      · have hd : (((ts.getD j noS).size : Int) != 32) = true := bne_iff_ne.2 (fun e => hk (by omega))
        have HE1 := hide (unhide HNOT j (unhide HJ) hk)
        have HEC := hide (unhide HC1 (unhide HE1))
        have HEL := hide (unhide HL1 (unhide HEC))
        clear hk
        generalize ts.getD j noS = key at *
        go_wp2
        go_returns
        exact ⟨_, ret_code (unhide HEC).symm, by rw [unhide HEL]; exact own_none' _ (unhide HBW).size, (unhide HBW).alloc (unhide HBW).size _⟩
    · obtain rfl : j = m := by omega
      have hall := unhide HOF hks
      have HEC := hide (unhide HC0 hall)
      have HEL := hide (unhide HL0 (unhide HEC))
      have HO : Hid (ownB w.heap.size wr u6 (opL ts xs)) := hide (by rw [← unhide HEND, unhide HF]; exact ho)
      have HBW := hide hb
      clear hlt hj ho hb hall hks
      go_wp2
      go_returns
      exact ⟨_, ret_code (unhide HEC).symm, by rw [unhide HEL]; exact unhide HO, unhide HBW⟩
end Go.Proofs.YtncplefjokbbjaaDoor
