/- A region that draws its order, by what stands in each state; the program's MessageBytes. -/
import Derived.Test.YtgdohkemamlnhaaDoorConv
import Derived.Test.YtgdohkemamlnhaaDoorOkI
import Derived.Test.YtgdohkemamlnhaaDoorMbytes
import Derived.Deep.RegionHeldLaw
import Derived.Great.BuildSlice
namespace Go.Proofs.YtgdohkemamlnhaaDoor
open Go.RowKit
set_option maxHeartbeats 40000000
set_option maxRecDepth 20000
theorem mc_new (w : World) (r s a : Int) (d b : ByteArray) (t : TypeId) : MC w.heap.size r s a d b (w.alloc (.cells #[.int .i64 r, .int .i64 s, .int .i64 a, .string d, .string b] t)) := by
  refine ⟨by simp, ?_, ?_, ?_, ?_, ?_⟩ <;> rw [Go.cell_of_row _ _ _ _ _ _ (heap_alloc_new w _)] <;> rfl
theorem by_cvd (w : World) (t : ByteArray) : bytesV (cvW w.drew t) (.slice (some ⟨w.heap.size, 0, none⟩) t.size (grownCap w.drew t.size 0 5)) (txt t) := by_cv w.drew t
/-- whatever order is drawn, where what stands in each state is handed on by each operation that may come up -/
theorem wpAnyH_inv {P : Program} {md : Region.Mode} {ops : Array Oper} {Q : Exit → Act → World → Prop} {S : World → Prop} (J : Array Bool → Act → World → Prop)
    (step : ∀ listed a w i, J listed a w → i ∈ Region.ready md ops listed → wpOp P ops Q i (fun a' w' => S w' ∧ J (listed.setIfInBounds i true) a' w') a w)
    (fin : ∀ listed a w, J listed a w → Region.ready md ops listed = [] → Q .normal a w) :
    ∀ (fuel : Nat) (listed : Array Bool) (a : Act) (w : World), listed.toList.countP (fun x => !x) ≤ fuel → J listed a w → wpAnyH P md ops Q S fuel listed a w := by
  intro fuel
  have low : ∀ (listed : Array Bool) (i : Nat), i ∈ Region.ready md ops listed → (listed.setIfInBounds i true).toList.countP (fun x => !x) + 1 ≤ listed.toList.countP (fun x => !x) := by
    intro listed i hi
    have h0 := (mem_ready.1 hi).1
    have hlt : i < listed.size := by
      rcases Nat.lt_or_ge i listed.size with h | h
      · exact h
      · simp [Array.getD, Nat.not_lt.2 h] at h0
    have hl : i < listed.toList.length := by simpa using hlt
    have hv : listed.toList[i] = false := by simpa [Array.getD, hlt] using h0
    have hpos : 0 < listed.toList.countP (fun x => !x) := List.countP_pos_iff.2 ⟨_, List.getElem_mem hl, by simp [hv]⟩
    rw [Array.toList_setIfInBounds, List.countP_set hl, hv]
    generalize listed.toList.countP (fun x => !x) = n at *
    show n - 1 + 0 + 1 ≤ n
    omega
  induction fuel with
  | zero =>
    intro listed a w hc hJ
    have hr : Region.ready md ops listed = [] := by
      cases hq : Region.ready md ops listed with
      | nil => rfl
      | cons i l =>
        have := low listed i (by rw [hq]; exact List.mem_cons_self ..)
        omega
    exact ⟨hr, fin _ _ _ hJ hr⟩
  | succ fuel ih =>
    intro listed a w hc hJ
    refine ⟨fun h => fin _ _ _ hJ h, fun i hi => wpOp_mono (fun a' w' h => ⟨h.1, ih _ a' w' ?_ h.2⟩) (step _ _ _ _ hJ hi)⟩
    have := low listed i hi
    omega
theorem step_enter {P : Program} {ops : Array Oper} {o : Oper} {a : Act} {w : World} {K : Act → World → Prop} {Q : Exit → Act → World → Prop} {E : Prop} (hgd : o.guard = none) (f : FuncId) (args : Array Value) (hrun : (execOp a.eval o).run P w = .ok (.enter f args) w)
    (hc : Calls P f args w fun e w' => ∃ v, e = .returned v ∧ K (a.put o.dst v) w') : if Region.wanted o (yielded ops a.tmps) = true then Oper.wp P o a w K Q else E := by
  have hw : Region.wanted o (yielded ops a.tmps) = true := by simp [Region.wanted, hgd]
  rw [if_pos hw]
  unfold Oper.wp
  rw [hrun, Oper.upon_enter]
  refine hc.mono fun e w'' hh => ?_
  obtain ⟨v, rfl, hk⟩ := hh
  exact hk
theorem step_value {P : Program} {ops : Array Oper} {o : Oper} {a : Act} {w : World} {K : Act → World → Prop} {Q : Exit → Act → World → Prop} {E : Prop} (hgd : o.guard = none) (v : Value) (w' : World) (hrun : (execOp a.eval o).run P w = .ok (.value v) w')
    (h : K (a.put o.dst v) w') : if Region.wanted o (yielded ops a.tmps) = true then Oper.wp P o a w K Q else E := by
  have hw : Region.wanted o (yielded ops a.tmps) = true := by simp [Region.wanted, hgd]
  rw [if_pos hw]
  unfold Oper.wp
  rw [hrun, Oper.upon_value]
  exact h
theorem run_cvop (x : Operand) (o : Oper) (a : Act) (w : World) (t : ByteArray) (ho : o.op = .convert 9 22 x) (hx : a.eval x = .string t) : (execOp a.eval o).run Tryd.prog w = .ok (.value (.slice (some ⟨w.heap.size, 0, none⟩) t.size (grownCap w t.size 0 5))) (cvW w t) := by
  unfold execOp
  simp only [ho, hx, Sem.run_bind, run_cv, Result.andThen_ok, Sem.run_pure]
def partsL (r s a : Int) (d b : ByteArray) : List Int := num4 r ++ num2 s ++ num2 a ++ txt d ++ num1 (b.size : Int) ++ txt b
structure RJ (w w1 w2 : World) (g0 : Nat) (r s a : Int) (d b : ByteArray) (x3 x6 x9 x12 x16 x19 x20 x21 x22 : Bool) (t12 t15 t18 t21 t25 t28 t29 t30 : Value) (W : World) : Prop where
  sb : Below w1.heap.size w1 W
  u : x22 = false → Below w2.heap.size w2 W
  f3 : x22 = false → x3 = true → bytesV W t12 (num4 r)
  f6 : x22 = false → x6 = true → bytesV W t15 (num2 s)
  f9 : x22 = false → x9 = true → bytesV W t18 (num2 a)
  f12 : x22 = false → x12 = true → bytesV W t21 (txt d)
  f16 : x22 = false → x16 = true → bytesV W t25 (num1 (b.size : Int))
  f19 : x22 = false → x19 = true → bytesV W t28 (txt b)
  f20 : x20 = true → (x3 = true ∧ x6 = true ∧ x9 = true ∧ x12 = true ∧ x16 = true ∧ x19 = true) ∧ (x22 = false → ∃ q, t29 = .slice (some ⟨q, 0, none⟩) 6 6 ∧ W.heap[q]? = some (.cells #[t12, t15, t18, t21, t25, t28] 22 (0, 0)))
  f21 : x21 = true → x20 = true ∧ (x22 = false → bytesV W t30 (partsL r s a d b))
  f22 : x22 = true → x21 = true ∧ ownB w.heap.size W (.slice (some ⟨g0, 0, none⟩) 64 64) (mB r s a d b) ∧ Below w.heap.size w W
theorem mbI (r s a : Int) (d b : ByteArray) (w : World) : Calls Tryd.prog 19 #[msgV r s a d b] w fun e w' => ∃ v, e = .returned (.tuple #[v, .int .i64 (mbC r s a d b)]) ∧ ownB w.heap.size w' v (mbL r s a d b) ∧ Below w.heap.size w w' := by
  cases ho : okM r s a d b
  · have eL : mbL r s a d b = [] := by unfold mbL; rw [if_neg (by simp [ho])]
    have eC : mbC r s a d b = 1 := by unfold mbC; rw [if_neg (by simp [ho])]
    rw [eL, eC]
    have h7 := hide (okI r s a d b (w.alloc (.cells #[.int .i64 r, .int .i64 s, .int .i64 a, .string d, .string b] 24)))
    rw [ho] at h7
    have b0 : Below w.heap.size w (w.alloc (.cells #[.int .i64 r, .int .i64 s, .int .i64 a, .string d, .string b] 24)) := (Below.refl _ _).alloc (Nat.le_refl _) _
    clear ho eL eC
    go_enter Tryd.func19, Tryd.ntmps19
    go_wp2_with fail
    refine (unhide h7).mono ?_
    rintro e w1 ⟨rfl, b1'⟩
    have b1 := b0.trans (b1'.mono b0.size)
    clear b1' b0
    go_wp2
    go_returns
    exact ⟨_, rfl, ⟨(fun x hx => by cases hx), .inl ⟨rfl, rfl⟩⟩, b1⟩
  · have eL : mbL r s a d b = mB r s a d b := by unfold mbL; rw [if_pos ho]
    have eC : mbC r s a d b = 0 := by unfold mbC; rw [if_pos ho]
    rw [eL, eC]
    obtain ⟨hd, hb⟩ := okM_sizes ho
    have h7 := hide (okI r s a d b (w.alloc (.cells #[.int .i64 r, .int .i64 s, .int .i64 a, .string d, .string b] 24)))
    rw [ho] at h7
    have b0 : Below w.heap.size w (w.alloc (.cells #[.int .i64 r, .int .i64 s, .int .i64 a, .string d, .string b] 24)) := (Below.refl _ _).alloc (Nat.le_refl _) _
    have MC0 := hide (mc_new w r s a d b 24)
    have lenP : (num4 r ++ num2 s ++ num2 a ++ txt d ++ num1 (b.size : Int) ++ txt b).length = 17 + b.size := by simp [num4, num2, num1, txt_len, hd]; omega
    have eM : num4 r ++ num2 s ++ num2 a ++ txt d ++ num1 (b.size : Int) ++ txt b ++ (List.replicate 64 (0 : Int)).drop (17 + b.size) = mB r s a d b := by
      have h1 : num1 (b.size : Int) = [(b.size : Int)] := by unfold num1; rw [show (b.size : Int) % 256 = (b.size : Int) by omega]
      rw [h1, List.drop_replicate, show 64 - (17 + b.size) = 47 - b.size by omega, mB]
    have HLP := hide lenP
    have HEM := hide eM
    have HB := hide hb
    have HIM := hide (mB_isB r s a d b hb)
    have HLM := hide (mB_len r s a d b hd hb)
    clear ho eL eC lenP eM
    go_enter Tryd.func19, Tryd.ntmps19
    go_wp2_with fail
    refine (unhide h7).mono ?_
    rintro e w1 ⟨rfl, b1'⟩
    have B1 := hide (b0.trans (b1'.mono b0.size))
    have MC1 := hide ((unhide MC0).below b1')
    clear b1' b0 MC0 h7
    obtain ⟨Z, hZ⟩ : ∃ Z : List Int, List.replicate 64 0 = Z := ⟨_, rfl⟩
    have HZ : Hid (Z.length = 64) := hide (by rw [← hZ]; rfl)
    rw [hZ] at HEM
    have mk : (Instr.makeSlice 22 (.int .i64 64) (.int .i64 64)).run Tryd.prog w1 = .ok (.slice (some ⟨w1.heap.size, 0, none⟩) 64 64) (w1.alloc (rowObj 5 .u8 Z [])) := by rw [← hZ]; exact make_bytes 64 (by omega) w1
    clear hZ
    have HR := hide (heap_at w1 (rowObj 5 .u8 Z []) w1.heap.size rfl)
    have B2 := hide ((unhide B1).alloc (unhide B1).size (rowObj 5 .u8 Z []))
    have LT := hide (show w1.heap.size < (w1.alloc (rowObj 5 .u8 Z [])).heap.size by simp)
    have LO := hide (unhide B1).size
    have B12 := hide (show Below w1.heap.size w1 (w1.alloc (rowObj 5 .u8 Z [])) from bl_al (Below.refl _ _))
    go_wp2
    generalize w1.alloc (rowObj 5 .u8 Z []) = w2 at *
    clear hd hb mk
    have hF : Hid (∀ (W : World), Below w2.heap.size w2 W → ∀ W' : World, W' = W.setRow w1.heap.size ((partsL r s a d b ++ Z.drop (partsL r s a d b).length).map (Value.int .u8) ++ []).toArray → ownB w.heap.size W' (.slice (some ⟨w1.heap.size, 0, none⟩) 64 64) (mB r s a d b) ∧ Below w.heap.size w W') := hide (by
      intro W hW W' hW'
      subst hW'
      have hg := (hW.block w1.heap.size (unhide LT)).trans (unhide HR)
      unfold partsL
      rw [unhide HLP, unhide HEM]
      exact ⟨⟨unhide HIM, .inr ⟨w1.heap.size, 64, [], by rw [unhide HLM], unhide LO, get_setRow hg, by rw [unhide HLM]; omega⟩⟩, below_setRow ((unhide B2).trans (hW.mono (unhide B2).size)) (unhide LO)⟩)
    refine wp_region_held (S := fun W => Below w1.heap.size w1 W) (by kernel_rfl) ?_
    have hS0 : Below w1.heap.size w1 { w2 with drawn := w2.drawn + 1 } := below_drewN (unhide B12) 1
    have HU : Hid (Below w2.heap.size w2 { w2 with drawn := w2.drawn + 1 }) := hide (below_drewN (Below.refl _ _) 1)
    refine wpAnyH_take (i := 0) (oi := { dst := some 9, op := Op.move (Operand.tmp 4), type := 22, pos := "l05_wire.go:143", after := #[], guard := none }) (v := ?_) rfl (by kernel_rfl) (by kernel_rfl) (by kernel_rfl) (fun _ _ _ h => h) (Or.inl ⟨by rfl, ?_⟩) hS0 ?_
    rotate_left
    · intro W hSw
      obtain ⟨_, c0, c1, c2, c3, c4⟩ := (unhide MC1).below hSw
      go_simp
      try with_reducible rfl
    simp only [Act.put, List.setIfInBounds_toArray, List.set_cons_zero, List.set_cons_succ]
    refine wpAnyH_take (i := 1) (oi := { dst := some 10, op := Op.fieldAddr 24 (Operand.tmp 1) 0, type := 0, pos := "l05_wire.go:143", after := #[], guard := none }) (v := ?_) rfl (by kernel_rfl) (by kernel_rfl) (by kernel_rfl) (fun _ _ _ h => h) (Or.inl ⟨by rfl, ?_⟩) hS0 ?_
    rotate_left
    · intro W hSw
      obtain ⟨_, c0, c1, c2, c3, c4⟩ := (unhide MC1).below hSw
      go_simp
      try with_reducible rfl
    simp only [Act.put, List.setIfInBounds_toArray, List.set_cons_zero, List.set_cons_succ]
    refine wpAnyH_take (i := 2) (oi := { dst := some 11, op := Op.load 3 (Operand.tmp 10), type := 3, pos := "l05_wire.go:143", after := #[{ on := 1, ground := Ground.data }], guard := none }) (v := ?_) rfl (by kernel_rfl) (by kernel_rfl) (by kernel_rfl) (fun _ _ _ h => h) (Or.inl ⟨by rfl, ?_⟩) hS0 ?_
    rotate_left
    · intro W hSw
      obtain ⟨_, c0, c1, c2, c3, c4⟩ := (unhide MC1).below hSw
      go_simp
      try with_reducible rfl
    simp only [Act.put, List.setIfInBounds_toArray, List.set_cons_zero, List.set_cons_succ]
    refine wpAnyH_take (i := 4) (oi := { dst := some 13, op := Op.fieldAddr 24 (Operand.tmp 1) 1, type := 0, pos := "l05_wire.go:143", after := #[], guard := none }) (v := ?_) rfl (by kernel_rfl) (by kernel_rfl) (by kernel_rfl) (fun _ _ _ h => h) (Or.inl ⟨by rfl, ?_⟩) hS0 ?_
    rotate_left
    · intro W hSw
      obtain ⟨_, c0, c1, c2, c3, c4⟩ := (unhide MC1).below hSw
      go_simp
      try with_reducible rfl
    simp only [Act.put, List.setIfInBounds_toArray, List.set_cons_zero, List.set_cons_succ]
    refine wpAnyH_take (i := 5) (oi := { dst := some 14, op := Op.load 3 (Operand.tmp 13), type := 3, pos := "l05_wire.go:143", after := #[{ on := 4, ground := Ground.data }], guard := none }) (v := ?_) rfl (by kernel_rfl) (by kernel_rfl) (by kernel_rfl) (fun _ _ _ h => h) (Or.inl ⟨by rfl, ?_⟩) hS0 ?_
    rotate_left
    · intro W hSw
      obtain ⟨_, c0, c1, c2, c3, c4⟩ := (unhide MC1).below hSw
      go_simp
      try with_reducible rfl
    simp only [Act.put, List.setIfInBounds_toArray, List.set_cons_zero, List.set_cons_succ]
    refine wpAnyH_take (i := 7) (oi := { dst := some 16, op := Op.fieldAddr 24 (Operand.tmp 1) 2, type := 0, pos := "l05_wire.go:143", after := #[], guard := none }) (v := ?_) rfl (by kernel_rfl) (by kernel_rfl) (by kernel_rfl) (fun _ _ _ h => h) (Or.inl ⟨by rfl, ?_⟩) hS0 ?_
    rotate_left
    · intro W hSw
      obtain ⟨_, c0, c1, c2, c3, c4⟩ := (unhide MC1).below hSw
      go_simp
      try with_reducible rfl
    simp only [Act.put, List.setIfInBounds_toArray, List.set_cons_zero, List.set_cons_succ]
    refine wpAnyH_take (i := 8) (oi := { dst := some 17, op := Op.load 3 (Operand.tmp 16), type := 3, pos := "l05_wire.go:143", after := #[{ on := 7, ground := Ground.data }], guard := none }) (v := ?_) rfl (by kernel_rfl) (by kernel_rfl) (by kernel_rfl) (fun _ _ _ h => h) (Or.inl ⟨by rfl, ?_⟩) hS0 ?_
    rotate_left
    · intro W hSw
      obtain ⟨_, c0, c1, c2, c3, c4⟩ := (unhide MC1).below hSw
      go_simp
      try with_reducible rfl
    simp only [Act.put, List.setIfInBounds_toArray, List.set_cons_zero, List.set_cons_succ]
    refine wpAnyH_take (i := 10) (oi := { dst := some 19, op := Op.fieldAddr 24 (Operand.tmp 1) 3, type := 0, pos := "l05_wire.go:143", after := #[], guard := none }) (v := ?_) rfl (by kernel_rfl) (by kernel_rfl) (by kernel_rfl) (fun _ _ _ h => h) (Or.inl ⟨by rfl, ?_⟩) hS0 ?_
    rotate_left
    · intro W hSw
      obtain ⟨_, c0, c1, c2, c3, c4⟩ := (unhide MC1).below hSw
      go_simp
      try with_reducible rfl
    simp only [Act.put, List.setIfInBounds_toArray, List.set_cons_zero, List.set_cons_succ]
    refine wpAnyH_take (i := 11) (oi := { dst := some 20, op := Op.load 9 (Operand.tmp 19), type := 9, pos := "l05_wire.go:143", after := #[{ on := 10, ground := Ground.data }], guard := none }) (v := ?_) rfl (by kernel_rfl) (by kernel_rfl) (by kernel_rfl) (fun _ _ _ h => h) (Or.inl ⟨by rfl, ?_⟩) hS0 ?_
    rotate_left
    · intro W hSw
      obtain ⟨_, c0, c1, c2, c3, c4⟩ := (unhide MC1).below hSw
      go_simp
      try with_reducible rfl
    simp only [Act.put, List.setIfInBounds_toArray, List.set_cons_zero, List.set_cons_succ]
    refine wpAnyH_take (i := 13) (oi := { dst := some 22, op := Op.fieldAddr 24 (Operand.tmp 1) 4, type := 0, pos := "l05_wire.go:143", after := #[], guard := none }) (v := ?_) rfl (by kernel_rfl) (by kernel_rfl) (by kernel_rfl) (fun _ _ _ h => h) (Or.inl ⟨by rfl, ?_⟩) hS0 ?_
    rotate_left
    · intro W hSw
      obtain ⟨_, c0, c1, c2, c3, c4⟩ := (unhide MC1).below hSw
      go_simp
      try with_reducible rfl
    simp only [Act.put, List.setIfInBounds_toArray, List.set_cons_zero, List.set_cons_succ]
    refine wpAnyH_take (i := 14) (oi := { dst := some 23, op := Op.load 9 (Operand.tmp 22), type := 9, pos := "l05_wire.go:143", after := #[{ on := 13, ground := Ground.data }], guard := none }) (v := ?_) rfl (by kernel_rfl) (by kernel_rfl) (by kernel_rfl) (fun _ _ _ h => h) (Or.inl ⟨by rfl, ?_⟩) hS0 ?_
    rotate_left
    · intro W hSw
      obtain ⟨_, c0, c1, c2, c3, c4⟩ := (unhide MC1).below hSw
      go_simp
      try with_reducible rfl
    simp only [Act.put, List.setIfInBounds_toArray, List.set_cons_zero, List.set_cons_succ]
    refine wpAnyH_take (i := 15) (oi := { dst := some 24, op := Op.call { callee := Callee.builtin Builtin.len, args := #[Operand.tmp 23], argTypes := #[9] }, type := 3, pos := "l05_wire.go:143", after := #[{ on := 14, ground := Ground.data }], guard := none }) (v := ?_) rfl (by kernel_rfl) (by kernel_rfl) (by kernel_rfl) (fun _ _ _ h => h) (Or.inl ⟨by rfl, ?_⟩) hS0 ?_
    rotate_left
    · intro W hSw
      obtain ⟨_, c0, c1, c2, c3, c4⟩ := (unhide MC1).below hSw
      go_simp
      try with_reducible rfl
    simp only [Act.put, List.setIfInBounds_toArray, List.set_cons_zero, List.set_cons_succ]
    refine wpAnyH_take (i := 17) (oi := { dst := some 26, op := Op.fieldAddr 24 (Operand.tmp 1) 4, type := 0, pos := "l05_wire.go:143", after := #[], guard := none }) (v := ?_) rfl (by kernel_rfl) (by kernel_rfl) (by kernel_rfl) (fun _ _ _ h => h) (Or.inl ⟨by rfl, ?_⟩) hS0 ?_
    rotate_left
    · intro W hSw
      obtain ⟨_, c0, c1, c2, c3, c4⟩ := (unhide MC1).below hSw
      go_simp
      try with_reducible rfl
    simp only [Act.put, List.setIfInBounds_toArray, List.set_cons_zero, List.set_cons_succ]
    refine wpAnyH_take (i := 18) (oi := { dst := some 27, op := Op.load 9 (Operand.tmp 26), type := 9, pos := "l05_wire.go:143", after := #[{ on := 17, ground := Ground.data }], guard := none }) (v := ?_) rfl (by kernel_rfl) (by kernel_rfl) (by kernel_rfl) (fun _ _ _ h => h) (Or.inl ⟨by rfl, ?_⟩) hS0 ?_
    rotate_left
    · intro W hSw
      obtain ⟨_, c0, c1, c2, c3, c4⟩ := (unhide MC1).below hSw
      go_simp
      try with_reducible rfl
    simp only [Act.put, List.setIfInBounds_toArray, List.set_cons_zero, List.set_cons_succ]
    refine wpAnyH_inv (J := fun listed A W => ∃ (x3 x6 x9 x12 x16 x19 x20 x21 x22 : Bool) (t12 t15 t18 t21 t25 t28 t29 t30 t31 : Value), listed = #[true, true, true, x3, true, true, x6, true, true, x9, true, true, x12, true, true, true, x16, true, true, x19, x20, x21, x22] ∧ A = { tmps := ((msgV r s a d b) :: (.pointer (some ⟨w.heap.size, 0, none⟩)) :: (.slice none 0 0) :: (.int .i64 0) :: (.slice (some ⟨w1.heap.size, 0, none⟩) 64 64) :: (.agg #[.int .i64 r, .int .i64 s, .int .i64 a, .string d, .string b]) :: (.bool true) :: (.bool false) :: (.slice (some ⟨w1.heap.size, 0, none⟩) 64 64) :: (.slice (some ⟨w1.heap.size, 0, none⟩) 64 64) :: (.pointer (some ⟨w.heap.size, 0, none⟩)) :: (.int .i64 r) :: (t12) :: (.pointer (some ⟨w.heap.size, 1, none⟩)) :: (.int .i64 s) :: (t15) :: (.pointer (some ⟨w.heap.size, 2, none⟩)) :: (.int .i64 a) :: (t18) :: (.pointer (some ⟨w.heap.size, 3, none⟩)) :: (.string d) :: (t21) :: (.pointer (some ⟨w.heap.size, 4, none⟩)) :: (.string b) :: (.int .i64 (b.size : Int)) :: (t25) :: (.pointer (some ⟨w.heap.size, 4, none⟩)) :: (.string b) :: (t28) :: (t29) :: (t30) :: (t31) :: (undef) :: ([] : List Value)).toArray, defers := [] } ∧ RJ w w1 w2 w1.heap.size r s a d b x3 x6 x9 x12 x16 x19 x20 x21 x22 t12 t15 t18 t21 t25 t28 t29 t30 W) ?step ?fin _ _ _ _ ?cnt ?start
    case cnt => decide
    case start => exact ⟨false, false, false, false, false, false, false, false, false, undef, undef, undef, undef, undef, undef, undef, undef, undef, rfl, rfl, ⟨hS0, fun _ => unhide HU, (fun _ hx => by cases hx), (fun _ hx => by cases hx), (fun _ hx => by cases hx), (fun _ hx => by cases hx), (fun _ hx => by cases hx), (fun _ hx => by cases hx), (fun hx => by cases hx), (fun hx => by cases hx), (fun hx => by cases hx)⟩⟩
    case fin =>
      rintro listed A W ⟨x3, x6, x9, x12, x16, x19, x20, x21, x22, t12, t15, t18, t21, t25, t28, t29, t30, t31, rfl, rfl, h⟩ hr
      obtain rfl : x3 = true := by
        cases x3
        · have hm : 3 ∈ ([] : List Nat) := by
            rw [← hr]
            refine mem_ready.2 ⟨rfl, _, rfl, ?_⟩
            intro e he _
            simp at he
            subst he; rfl
          cases hm
        · rfl
      obtain rfl : x6 = true := by
        cases x6
        · have hm : 6 ∈ ([] : List Nat) := by
            rw [← hr]
            refine mem_ready.2 ⟨rfl, _, rfl, ?_⟩
            intro e he _
            simp at he
            rcases he with rfl | rfl <;> rfl
          cases hm
        · rfl
      obtain rfl : x9 = true := by
        cases x9
        · have hm : 9 ∈ ([] : List Nat) := by
            rw [← hr]
            refine mem_ready.2 ⟨rfl, _, rfl, ?_⟩
            intro e he _
            simp at he
            rcases he with rfl | rfl <;> rfl
          cases hm
        · rfl
      obtain rfl : x12 = true := by
        cases x12
        · have hm : 12 ∈ ([] : List Nat) := by
            rw [← hr]
            refine mem_ready.2 ⟨rfl, _, rfl, ?_⟩
            intro e he _
            simp at he
            subst he; rfl
          cases hm
        · rfl
      obtain rfl : x16 = true := by
        cases x16
        · have hm : 16 ∈ ([] : List Nat) := by
            rw [← hr]
            refine mem_ready.2 ⟨rfl, _, rfl, ?_⟩
            intro e he _
            simp at he
            rcases he with rfl | rfl <;> rfl
          cases hm
        · rfl
      obtain rfl : x19 = true := by
        cases x19
        · have hm : 19 ∈ ([] : List Nat) := by
            rw [← hr]
            refine mem_ready.2 ⟨rfl, _, rfl, ?_⟩
            intro e he _
            simp at he
            subst he; rfl
          cases hm
        · rfl
      obtain rfl : x20 = true := by
        cases x20
        · have hm : 20 ∈ ([] : List Nat) := by
            rw [← hr]
            refine mem_ready.2 ⟨rfl, _, rfl, ?_⟩
            intro e he _
            simp at he
            rcases he with rfl | rfl | rfl | rfl | rfl | rfl <;> rfl
          cases hm
        · rfl
      obtain rfl : x21 = true := by
        cases x21
        · have hm : 21 ∈ ([] : List Nat) := by
            rw [← hr]
            refine mem_ready.2 ⟨rfl, _, rfl, ?_⟩
            intro e he _
            simp at he
            rcases he with rfl | rfl <;> rfl
          cases hm
        · rfl
      obtain rfl : x22 = true := by
        cases x22
        · have hm : 22 ∈ ([] : List Nat) := by
            rw [← hr]
            refine mem_ready.2 ⟨rfl, _, rfl, ?_⟩
            intro e he _
            simp at he
            rcases he with rfl | rfl | rfl <;> rfl
          cases hm
        · rfl
      obtain ⟨_, oF, bF⟩ := h.f22 rfl
      go_wp2
      go_returns
      exact ⟨_, rfl, oF, bF⟩
    case step =>
      rintro listed A W i ⟨x3, x6, x9, x12, x16, x19, x20, x21, x22, t12, t15, t18, t21, t25, t28, t29, t30, t31, rfl, rfl, h⟩ hi
      obtain ⟨h0, o, ho, hdep⟩ := mem_ready.1 hi
      have hlt : i < 23 := (Array.getElem?_eq_some_iff.1 ho).1
      obtain rfl | rfl | rfl | rfl | rfl | rfl | rfl | rfl | rfl | rfl | rfl | rfl | rfl | rfl | rfl | rfl | rfl | rfl | rfl | rfl | rfl | rfl | rfl : i = 0 ∨ i = 1 ∨ i = 2 ∨ i = 3 ∨ i = 4 ∨ i = 5 ∨ i = 6 ∨ i = 7 ∨ i = 8 ∨ i = 9 ∨ i = 10 ∨ i = 11 ∨ i = 12 ∨ i = 13 ∨ i = 14 ∨ i = 15 ∨ i = 16 ∨ i = 17 ∨ i = 18 ∨ i = 19 ∨ i = 20 ∨ i = 21 ∨ i = 22 := by omega
      · exact absurd (show true = false from h0) (by decide)
      · exact absurd (show true = false from h0) (by decide)
      · exact absurd (show true = false from h0) (by decide)
      · -- number 3
        have hx : x3 = false := h0
        subst hx
        cases ho
        obtain rfl : x20 = false := by
          cases x20
          · rfl
          · have := (h.f20 rfl).1; simp at this
        obtain rfl : x21 = false := by
          cases x21
          · rfl
          · exact (h.f21 rfl).1.symm
        obtain rfl : x22 = false := by
          cases x22
          · rfl
          · exact (h.f22 rfl).1.symm
        refine wpOp_step (o := { dst := some 12, op := Op.call { callee := Callee.value (Operand.func 40), args := #[Operand.tmp 11, Operand.const (Value.int IntKind.i64 4)], argTypes := #[3, 3] }, type := 22, pos := "l05_wire.go:144", after := #[{ on := 2, ground := Ground.data }], guard := none }) rfl fun K' hK => step_enter rfl 40 #[.int .i64 r, .int .i64 4] (by go_simp) ((nb4 r W).mono ?_)
        rintro e W' ⟨v, rfl, o', hb⟩
        have o := o'.bytes
        exact ⟨v, rfl, hK _ _ ⟨bl_st hb h.sb, true, x6, x9, x12, x16, x19, false, false, false, v, t15, t18, t21, t25, t28, t29, t30, t31, rfl, rfl, ⟨bl_st hb h.sb, fun _ => bl_st hb (h.u rfl), (fun _ _ => o), (fun _ hx => by_st hb (h.f6 rfl hx)), (fun _ hx => by_st hb (h.f9 rfl hx)), (fun _ hx => by_st hb (h.f12 rfl hx)), (fun _ hx => by_st hb (h.f16 rfl hx)), (fun _ hx => by_st hb (h.f19 rfl hx)), (fun hx => by cases hx), (fun hx => by cases hx), (fun hx => by cases hx)⟩⟩⟩
      · exact absurd (show true = false from h0) (by decide)
      · exact absurd (show true = false from h0) (by decide)
      · -- number 6
        have hx : x6 = false := h0
        subst hx
        cases ho
        obtain rfl : x20 = false := by
          cases x20
          · rfl
          · have := (h.f20 rfl).1; simp at this
        obtain rfl : x21 = false := by
          cases x21
          · rfl
          · exact (h.f21 rfl).1.symm
        obtain rfl : x22 = false := by
          cases x22
          · rfl
          · exact (h.f22 rfl).1.symm
        refine wpOp_step (o := { dst := some 15, op := Op.call { callee := Callee.value (Operand.func 40), args := #[Operand.tmp 14, Operand.const (Value.int IntKind.i64 2)], argTypes := #[3, 3] }, type := 22, pos := "l05_wire.go:144", after := #[{ on := 5, ground := Ground.data }, { on := 3, ground := Ground.chain }], guard := none }) rfl fun K' hK => step_enter rfl 40 #[.int .i64 s, .int .i64 2] (by go_simp) ((nb2 s W).mono ?_)
        rintro e W' ⟨v, rfl, o', hb⟩
        have o := o'.bytes
        exact ⟨v, rfl, hK _ _ ⟨bl_st hb h.sb, x3, true, x9, x12, x16, x19, false, false, false, t12, v, t18, t21, t25, t28, t29, t30, t31, rfl, rfl, ⟨bl_st hb h.sb, fun _ => bl_st hb (h.u rfl), (fun _ hx => by_st hb (h.f3 rfl hx)), (fun _ _ => o), (fun _ hx => by_st hb (h.f9 rfl hx)), (fun _ hx => by_st hb (h.f12 rfl hx)), (fun _ hx => by_st hb (h.f16 rfl hx)), (fun _ hx => by_st hb (h.f19 rfl hx)), (fun hx => by cases hx), (fun hx => by cases hx), (fun hx => by cases hx)⟩⟩⟩
      · exact absurd (show true = false from h0) (by decide)
      · exact absurd (show true = false from h0) (by decide)
      · -- number 9
        have hx : x9 = false := h0
        subst hx
        cases ho
        obtain rfl : x20 = false := by
          cases x20
          · rfl
          · have := (h.f20 rfl).1; simp at this
        obtain rfl : x21 = false := by
          cases x21
          · rfl
          · exact (h.f21 rfl).1.symm
        obtain rfl : x22 = false := by
          cases x22
          · rfl
          · exact (h.f22 rfl).1.symm
        refine wpOp_step (o := { dst := some 18, op := Op.call { callee := Callee.value (Operand.func 40), args := #[Operand.tmp 17, Operand.const (Value.int IntKind.i64 2)], argTypes := #[3, 3] }, type := 22, pos := "l05_wire.go:144", after := #[{ on := 8, ground := Ground.data }, { on := 6, ground := Ground.chain }], guard := none }) rfl fun K' hK => step_enter rfl 40 #[.int .i64 a, .int .i64 2] (by go_simp) ((nb2 a W).mono ?_)
        rintro e W' ⟨v, rfl, o', hb⟩
        have o := o'.bytes
        exact ⟨v, rfl, hK _ _ ⟨bl_st hb h.sb, x3, x6, true, x12, x16, x19, false, false, false, t12, t15, v, t21, t25, t28, t29, t30, t31, rfl, rfl, ⟨bl_st hb h.sb, fun _ => bl_st hb (h.u rfl), (fun _ hx => by_st hb (h.f3 rfl hx)), (fun _ hx => by_st hb (h.f6 rfl hx)), (fun _ _ => o), (fun _ hx => by_st hb (h.f12 rfl hx)), (fun _ hx => by_st hb (h.f16 rfl hx)), (fun _ hx => by_st hb (h.f19 rfl hx)), (fun hx => by cases hx), (fun hx => by cases hx), (fun hx => by cases hx)⟩⟩⟩
      · exact absurd (show true = false from h0) (by decide)
      · exact absurd (show true = false from h0) (by decide)
      · -- number 12
        have hx : x12 = false := h0
        subst hx
        cases ho
        obtain rfl : x20 = false := by
          cases x20
          · rfl
          · have := (h.f20 rfl).1; simp at this
        obtain rfl : x21 = false := by
          cases x21
          · rfl
          · exact (h.f21 rfl).1.symm
        obtain rfl : x22 = false := by
          cases x22
          · rfl
          · exact (h.f22 rfl).1.symm
        refine wpOp_step (o := { dst := some 21, op := Op.convert 9 22 (Operand.tmp 20), type := 22, pos := "l05_wire.go:143", after := #[{ on := 11, ground := Ground.data }], guard := none }) rfl fun K' hK => step_value rfl (.slice (some ⟨W.heap.size, 0, none⟩) d.size (grownCap W d.size 0 5)) (cvW W d) (run_cvop _ _ _ W d rfl rfl) ?_
        have hb : Below W.heap.size W (cvW W d) := bl_cv (Below.refl _ _)
        have o := by_cv W d
        exact hK _ _ ⟨bl_st hb h.sb, x3, x6, x9, true, x16, x19, false, false, false, t12, t15, t18, .slice (some ⟨W.heap.size, 0, none⟩) d.size (grownCap W d.size 0 5), t25, t28, t29, t30, t31, rfl, rfl, ⟨bl_st hb h.sb, fun _ => bl_st hb (h.u rfl), (fun _ hx => by_st hb (h.f3 rfl hx)), (fun _ hx => by_st hb (h.f6 rfl hx)), (fun _ hx => by_st hb (h.f9 rfl hx)), (fun _ _ => o), (fun _ hx => by_st hb (h.f16 rfl hx)), (fun _ hx => by_st hb (h.f19 rfl hx)), (fun hx => by cases hx), (fun hx => by cases hx), (fun hx => by cases hx)⟩⟩
      · exact absurd (show true = false from h0) (by decide)
      · exact absurd (show true = false from h0) (by decide)
      · exact absurd (show true = false from h0) (by decide)
      · -- number 16
        have hx : x16 = false := h0
        subst hx
        cases ho
        obtain rfl : x20 = false := by
          cases x20
          · rfl
          · have := (h.f20 rfl).1; simp at this
        obtain rfl : x21 = false := by
          cases x21
          · rfl
          · exact (h.f21 rfl).1.symm
        obtain rfl : x22 = false := by
          cases x22
          · rfl
          · exact (h.f22 rfl).1.symm
        refine wpOp_step (o := { dst := some 25, op := Op.call { callee := Callee.value (Operand.func 40), args := #[Operand.tmp 24, Operand.const (Value.int IntKind.i64 1)], argTypes := #[3, 3] }, type := 22, pos := "l05_wire.go:145", after := #[{ on := 15, ground := Ground.data }, { on := 9, ground := Ground.chain }], guard := none }) rfl fun K' hK => step_enter rfl 40 #[.int .i64 (b.size : Int), .int .i64 1] (by go_simp) ((nb1 (b.size : Int) W).mono ?_)
        rintro e W' ⟨v, rfl, o', hb⟩
        have o := o'.bytes
        exact ⟨v, rfl, hK _ _ ⟨bl_st hb h.sb, x3, x6, x9, x12, true, x19, false, false, false, t12, t15, t18, t21, v, t28, t29, t30, t31, rfl, rfl, ⟨bl_st hb h.sb, fun _ => bl_st hb (h.u rfl), (fun _ hx => by_st hb (h.f3 rfl hx)), (fun _ hx => by_st hb (h.f6 rfl hx)), (fun _ hx => by_st hb (h.f9 rfl hx)), (fun _ hx => by_st hb (h.f12 rfl hx)), (fun _ _ => o), (fun _ hx => by_st hb (h.f19 rfl hx)), (fun hx => by cases hx), (fun hx => by cases hx), (fun hx => by cases hx)⟩⟩⟩
      · exact absurd (show true = false from h0) (by decide)
      · exact absurd (show true = false from h0) (by decide)
      · -- number 19
        have hx : x19 = false := h0
        subst hx
        cases ho
        obtain rfl : x20 = false := by
          cases x20
          · rfl
          · have := (h.f20 rfl).1; simp at this
        obtain rfl : x21 = false := by
          cases x21
          · rfl
          · exact (h.f21 rfl).1.symm
        obtain rfl : x22 = false := by
          cases x22
          · rfl
          · exact (h.f22 rfl).1.symm
        refine wpOp_step (o := { dst := some 28, op := Op.convert 9 22 (Operand.tmp 27), type := 22, pos := "l05_wire.go:143", after := #[{ on := 18, ground := Ground.data }], guard := none }) rfl fun K' hK => step_value rfl (.slice (some ⟨W.heap.size, 0, none⟩) b.size (grownCap W b.size 0 5)) (cvW W b) (run_cvop _ _ _ W b rfl rfl) ?_
        have hb : Below W.heap.size W (cvW W b) := bl_cv (Below.refl _ _)
        have o := by_cv W b
        exact hK _ _ ⟨bl_st hb h.sb, x3, x6, x9, x12, x16, true, false, false, false, t12, t15, t18, t21, t25, .slice (some ⟨W.heap.size, 0, none⟩) b.size (grownCap W b.size 0 5), t29, t30, t31, rfl, rfl, ⟨bl_st hb h.sb, fun _ => bl_st hb (h.u rfl), (fun _ hx => by_st hb (h.f3 rfl hx)), (fun _ hx => by_st hb (h.f6 rfl hx)), (fun _ hx => by_st hb (h.f9 rfl hx)), (fun _ hx => by_st hb (h.f12 rfl hx)), (fun _ hx => by_st hb (h.f16 rfl hx)), (fun _ _ => o), (fun hx => by cases hx), (fun hx => by cases hx), (fun hx => by cases hx)⟩⟩
      · -- number 20
        have hx : x20 = false := h0
        subst hx
        cases ho
        obtain rfl : x3 = true := hdep ⟨3, .data⟩ (by simp) rfl
        obtain rfl : x6 = true := hdep ⟨6, .data⟩ (by simp) rfl
        obtain rfl : x9 = true := hdep ⟨9, .data⟩ (by simp) rfl
        obtain rfl : x12 = true := hdep ⟨12, .data⟩ (by simp) rfl
        obtain rfl : x16 = true := hdep ⟨16, .data⟩ (by simp) rfl
        obtain rfl : x19 = true := hdep ⟨19, .data⟩ (by simp) rfl
        obtain rfl : x21 = false := by
          cases x21
          · rfl
          · exact (h.f21 rfl).1.symm
        obtain rfl : x22 = false := by
          cases x22
          · rfl
          · exact (h.f22 rfl).1.symm
        have o3 := h.f3 rfl rfl
        obtain ⟨A3, c3, e3, _, _⟩ := id o3
        subst e3
        have o6 := h.f6 rfl rfl
        obtain ⟨A6, c6, e6, _, _⟩ := id o6
        subst e6
        have o9 := h.f9 rfl rfl
        obtain ⟨A9, c9, e9, _, _⟩ := id o9
        subst e9
        have o12 := h.f12 rfl rfl
        obtain ⟨A12, c12, e12, _, _⟩ := id o12
        subst e12
        have o16 := h.f16 rfl rfl
        obtain ⟨A16, c16, e16, _, _⟩ := id o16
        subst e16
        have o19 := h.f19 rfl rfl
        obtain ⟨A19, c19, e19, _, _⟩ := id o19
        subst e19
        refine wpOp_step (o := { dst := some 29, op := Op.buildSlice 83 6 #[(0, Operand.tmp 12), (1, Operand.tmp 15), (2, Operand.tmp 18), (3, Operand.tmp 21), (4, Operand.tmp 25), (5, Operand.tmp 28)], type := 83, pos := "l05_wire.go:143", after := #[{ on := 3, ground := Ground.data }, { on := 6, ground := Ground.data }, { on := 9, ground := Ground.data }, { on := 12, ground := Ground.data }, { on := 16, ground := Ground.data }, { on := 19, ground := Ground.data }], guard := none }) rfl fun K' hK => step_value rfl (.slice (some ⟨W.heap.size, 0, none⟩) 6 6) (W.alloc (.cells #[.slice A3 (num4 r).length c3, .slice A6 (num2 s).length c6, .slice A9 (num2 a).length c9, .slice A12 (txt d).length c12, .slice A16 (num1 (b.size : Int)).length c16, .slice A19 (txt b).length c19] 22)) ?_ ?_
        · go_simp
        · have hb : Below W.heap.size W (W.alloc (.cells #[.slice A3 (num4 r).length c3, .slice A6 (num2 s).length c6, .slice A9 (num2 a).length c9, .slice A12 (txt d).length c12, .slice A16 (num1 (b.size : Int)).length c16, .slice A19 (txt b).length c19] 22)) := bl_al (Below.refl _ _)
          exact hK _ _ ⟨bl_st hb h.sb, true, true, true, true, true, true, true, false, false, .slice A3 (num4 r).length c3, .slice A6 (num2 s).length c6, .slice A9 (num2 a).length c9, .slice A12 (txt d).length c12, .slice A16 (num1 (b.size : Int)).length c16, .slice A19 (txt b).length c19, .slice (some ⟨W.heap.size, 0, none⟩) 6 6, t30, t31, rfl, rfl, ⟨bl_st hb h.sb, fun _ => bl_st hb (h.u rfl), fun _ _ => by_st hb o3, fun _ _ => by_st hb o6, fun _ _ => by_st hb o9, fun _ _ => by_st hb o12, fun _ _ => by_st hb o16, fun _ _ => by_st hb o19, fun _ => ⟨⟨rfl, rfl, rfl, rfl, rfl, rfl⟩, fun _ => ⟨_, rfl, heap_alloc_new W _⟩⟩, (fun hx => by cases hx), (fun hx => by cases hx)⟩⟩
      · -- number 21
        have hx : x21 = false := h0
        subst hx
        cases ho
        obtain rfl : x20 = true := hdep ⟨20, .data⟩ (by simp) rfl
        obtain rfl : x22 = false := by
          cases x22
          · rfl
          · exact (h.f22 rfl).1.symm
        obtain ⟨⟨rfl, rfl, rfl, rfl, rfl, rfl⟩, hq'⟩ := h.f20 rfl
        obtain ⟨q, rfl, hq⟩ := hq' rfl
        refine wpOp_step (o := { dst := some 30, op := Op.call { callee := Callee.value (Operand.func 39), args := #[Operand.tmp 29], argTypes := #[83] }, type := 22, pos := "l05_wire.go:143", after := #[{ on := 20, ground := Ground.data }, { on := 16, ground := Ground.chain }], guard := none }) rfl fun K' hK => step_enter rfl 39 #[.slice (some ⟨q, 0, none⟩) 6 6] (by go_simp) ((cat6 W q _ _ _ _ _ _ _ _ _ _ _ _ hq (h.f3 rfl rfl) (h.f6 rfl rfl) (h.f9 rfl rfl) (h.f12 rfl rfl) (h.f16 rfl rfl) (h.f19 rfl rfl) (by rw [unhide HLP]; omega) (by have := unhide HB; rw [unhide HLP]; omega)).mono ?_)
        rintro e W' ⟨v, rfl, o', hb⟩
        have o := o'.bytes
        exact ⟨v, rfl, hK _ _ ⟨bl_st hb h.sb, true, true, true, true, true, true, true, true, false, t12, t15, t18, t21, t25, t28, _, v, t31, rfl, rfl, ⟨bl_st hb h.sb, fun _ => bl_st hb (h.u rfl), fun _ _ => by_st hb (h.f3 rfl rfl), fun _ _ => by_st hb (h.f6 rfl rfl), fun _ _ => by_st hb (h.f9 rfl rfl), fun _ _ => by_st hb (h.f12 rfl rfl), fun _ _ => by_st hb (h.f16 rfl rfl), fun _ _ => by_st hb (h.f19 rfl rfl), fun _ => ⟨⟨rfl, rfl, rfl, rfl, rfl, rfl⟩, fun _ => ⟨q, rfl, (hb.block q (Array.getElem?_eq_some_iff.1 hq).1).trans hq⟩⟩, fun _ => ⟨rfl, fun _ => o⟩, (fun hx => by cases hx)⟩⟩⟩
      · -- number 22
        have hx : x22 = false := h0
        subst hx
        cases ho
        obtain rfl : x21 = true := hdep ⟨21, .data⟩ (by simp) rfl
        obtain ⟨rfl, o'⟩ := h.f21 rfl
        have o := o' rfl
        obtain ⟨⟨rfl, rfl, rfl, rfl, rfl, rfl⟩, hq'⟩ := h.f20 rfl
        obtain ⟨q, rfl, hq⟩ := hq' rfl
        have hW := h.u rfl
        have hg := (hW.block w1.heap.size (unhide LT)).trans (unhide HR)
        refine wpOp_step (o := { dst := some 31, op := Op.call { callee := Callee.builtin Builtin.copy, args := #[Operand.tmp 9, Operand.tmp 30], argTypes := #[22, 22] }, type := 3, pos := "l05_wire.go:143", after := #[{ on := 0, ground := Ground.data }, { on := 21, ground := Ground.data }, { on := 21, ground := Ground.chain }], guard := none }) rfl fun K' hK => step_copy W rfl _ _ rfl w1.heap.size 64 Z (unhide HZ) rfl hg t30 (partsL r s a d b) rfl o (by rw [partsL, unhide HLP]; omega) (by have := unhide HB; rw [partsL, unhide HLP, unhide HZ]; omega) ?_
        intro W' hW'
        have hs : Below w1.heap.size w1 W' := by subst hW'; exact below_setRow h.sb (Nat.le_refl _)
        obtain ⟨oF, bF⟩ := unhide hF W hW W' hW'
        exact hK _ _ ⟨hs, true, true, true, true, true, true, true, true, true, t12, t15, t18, t21, t25, t28, _, t30, _, rfl, rfl, ⟨hs, (fun hx => by cases hx), (fun hx => by cases hx), (fun hx => by cases hx), (fun hx => by cases hx), (fun hx => by cases hx), (fun hx => by cases hx), (fun hx => by cases hx), fun _ => ⟨⟨rfl, rfl, rfl, rfl, rfl, rfl⟩, (fun hx => by cases hx)⟩, fun _ => ⟨rfl, (fun hx => by cases hx)⟩, fun _ => ⟨rfl, oF, bF⟩⟩⟩
end Go.Proofs.YtgdohkemamlnhaaDoor
