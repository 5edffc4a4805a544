/- A batch's bytes, as the specification has them. -/
import Derived.Test.YtgdohkemamlnhaaDoorBatO
import Derived.Test.YtgdohkemamlnhaaDoorRs
namespace Go.Proofs.YtgdohkemamlnhaaDoor
open Go.RowKit
set_option maxHeartbeats 4000000
set_option maxRecDepth 20000
/-- texts one behind another -/
def flatT (ts : List ByteArray) : List Int := (ts.map txt).flatten
theorem flatT_take (ts : List ByteArray) (j : Nat) (h : j < ts.length) : flatT (ts.take (j + 1)) = flatT (ts.take j) ++ txt (ts.getD j noS) := by
  unfold flatT
  rw [List.take_succ_eq_append_getElem h, List.map_append, List.flatten_append, List.getD_eq_getElem?_getD, List.getElem?_eq_getElem h]
  simp
theorem flatT_len (ts : List ByteArray) (h : ∀ t ∈ ts, t.size ≤ 400) : ∀ j, j ≤ ts.length → (flatT (ts.take j)).length ≤ j * 400
  | 0, _ => by simp [flatT]
  | j + 1, hj => by
    have ih := flatT_len ts h j (by omega)
    rw [flatT_take ts j (by omega), List.length_append, txt_len]
    have := h (ts.getD j noS) (by rw [List.getD_eq_getElem?_getD, List.getElem?_eq_getElem (by omega : j < ts.length)]; exact List.getElem_mem _)
    omega
theorem flatT_isB (ts : List ByteArray) : isB (flatT ts) := by
  intro x hx
  unfold flatT at hx
  rw [List.mem_flatten] at hx
  obtain ⟨l, hl, hx⟩ := hx
  obtain ⟨t, _, rfl⟩ := List.mem_map.1 hl
  exact txt_isB t x hx
def bH (r l : Int) (ts : List ByteArray) : List Int := num4 r ++ [l % 256, (ts.length : Int) % 256] ++ num2 (sz0 ts : Int)
def bB (r l : Int) (ts : List ByteArray) : List Int := bH r l ts ++ flatT ts
theorem bH_len (r l : Int) (ts : List ByteArray) : (bH r l ts).length = 8 := rfl
theorem bH_isB (r l : Int) (ts : List ByteArray) : isB (bH r l ts) := by
  intro x hx
  simp only [bH, List.mem_append, List.mem_cons, List.not_mem_nil, or_false] at hx
  rcases hx with (h | h) | h
  · exact num4_isB r x h
  · omega
  · exact num2_isB _ x h
theorem bB_isB (r l : Int) (ts : List ByteArray) : isB (bB r l ts) := by
  intro x hx
  rcases List.mem_append.1 hx with h | h
  · exact bH_isB r l ts x h
  · exact flatT_isB ts x h
theorem okB_parts {r l : Int} {ts : List ByteArray} (h : okB r l ts = true) : ts.length ≤ 64 ∧ (∀ t ∈ ts, t.size ≤ 400) ∧ sz0 ts ≤ 400 ∧ (0 ≤ r ∧ r ≤ 1000000) ∧ (0 ≤ l ∧ l ≤ 255) ∧ (∀ t ∈ ts, t.size = sz0 ts) := by
  unfold okB at h
  simp only [Bool.and_eq_true, decide_eq_true_eq, List.all_eq_true] at h
  obtain ⟨⟨⟨h1, h2⟩, h3⟩, h4⟩ := h
  refine ⟨h3, fun t ht => (h4 t ht).1, ?_, h1, h2, fun t ht => (h4 t ht).2⟩
  by_cases h0 : 0 < ts.length
  · have := (h4 (ts.getD 0 noS) (by rw [List.getD_eq_getElem?_getD, List.getElem?_eq_getElem h0]; exact List.getElem_mem _)).1
    exact this
  · unfold sz0; rw [List.getD_eq_getElem?_getD, List.getElem?_eq_none (by omega)]; exact Nat.zero_le _
theorem wpList_append_text (w : World) {ops : Array Oper} {rest : List Oper} {o : Oper} {a : Act} {Q : Exit → Act → World → Prop} (hgd : o.guard = none) (s x : Operand)
    (ho : o.op = .call { callee := .builtin .append, args := #[s, x], argTypes := #[22, 9] })
    (base k : Nat) (v : Value) (xs : List Int) (hs : a.eval s = v) (hown : w.ownsRow base 5 1 v k (xs.map (Value.int .u8))) (hv : ∃ g c, v = .slice (some ⟨g, 0, none⟩) k c) (t : ByteArray) (hxv : a.eval x = .string t) (hm : k + t.size ≤ 4194304) (hbase : base ≤ w.heap.size)
    (h : ∀ (g c : Nat) (w' : World), w'.ownsRow base 5 1 (.slice (some ⟨g, 0, none⟩) (k + t.size) c) (k + t.size) ((xs ++ txt t).map (Value.int .u8)) → w.grownBy w' v.ownBlock → wpList Tryd.prog ops Q rest (a.put o.dst (.slice (some ⟨g, 0, none⟩) (k + t.size) c)) w') : wpList Tryd.prog ops Q (o :: rest) a w :=
  wpList_plain hgd fun K hK => by
    obtain ⟨i0, hi0, hz0, hz1, hz2⟩ := info_parts info5
    obtain ⟨v', w', hr, h2, h4, h5⟩ := Lib.run_append_own_string (P := Tryd.prog) w base 22 9 o.type 5 i0 Tryd.underlying22 Tryd.underlying9 hi0 hz0 hz1 hz2 v k _ hown t (by unfold maxLen; omega) (by omega) hbase
    have hv' : ∃ g c, v' = .slice (some ⟨g, 0, none⟩) (k + t.size) c := by
      rcases h2.2 with ⟨e, _⟩ | ⟨g, c, _, e, _⟩
      · obtain ⟨e2, _⟩ := h5.1 e
        obtain ⟨g, c, e3⟩ := hv
        rw [e3] at e2
        simp at e2
      · exact ⟨g, c, e⟩
    obtain ⟨g, c, rfl⟩ := hv'
    rw [strCells_txt, ← List.map_append] at h2
    unfold Oper.wp execOp
    simp only [ho, resolve, invoke, builtin, Sem.run_bind, Sem.run_pure, Result.andThen_ok, List.map_toArray, List.map_cons, List.map_nil, hs, hxv, hr]
    exact hK _ _ (h g c w' h2 h4)
theorem two_new (W : World) (x y : Int) : bytesV (W.alloc (.cells #[.int .u8 (IntKind.u8.wrap x), .int .u8 (IntKind.u8.wrap y)] 5)) (.slice (some ⟨W.heap.size, 0, none⟩) 2 2) [x % 256, y % 256] := by
  refine ⟨_, _, rfl, fun z hz => ?_, fun _ => ⟨W.heap.size, 0, rfl, by simp, fun i hi => ?_⟩⟩
  · simp at hz; omega
  · rw [Go.cell_of_row _ _ _ _ _ _ (heap_alloc_new W _)]
    have hi' : i < 2 := hi
    obtain rfl | rfl : i = 0 ∨ i = 1 := by omega
    · simp [IntKind.wrap_u8]
    · simp [IntKind.wrap_u8]
theorem bb29 (r l : Int) (v : Value) (ts : List ByteArray) (w : World) (hv : strsV w v ts) (ok : okB r l ts = true) :
    Calls Tryd.prog 48 #[btV r l v] w fun e w' => ∃ u, e = .returned u ∧ ownB w.heap.size w' u (bB r l ts) ∧ Below w.heap.size w w' := by
  have B0 : Below w.heap.size w (w.alloc (.cells #[.int .i64 r, .int .i64 l, v] 33)) := bl_al (Below.refl _ _)
  have HV := hide (hv.below B0)
  have HB0 := hide B0
  have HBC := hide (bc_new w r l v 33)
  obtain ⟨h64, h400, hz, _, _, _⟩ := okB_parts ok
  have H400 := hide h400
  have HZ := hide hz
  have H64 := hide h64
  have c35a := hide (num24_4 r)
  have c35b := hide (num24_2 (sz0 ts : Int))
  obtain ⟨A, cap, rfl, hc⟩ := hv
  have n0 : (0 : Int) ≤ (ts.length : Int) := by omega
  have n1 : (ts.length : Int) ≤ 64 := by omega
  clear B0 ok h64 h400 hz
  obtain ⟨_, d0, d1, d2⟩ := unhide HBC
  by_cases h0 : 0 < ts.length
  · have q : (0 : Int) < (ts.length : Int) := by omega
    obtain ⟨b, off, rfl, hbl, hcell⟩ := hc h0
    have p0 : (w.alloc (.cells #[.int .i64 r, .int .i64 l, .slice (some ⟨b, off, none⟩) ts.length cap] 33)).cell? ⟨b, off, none⟩ = some (.string (ts.getD 0 noS)) := (cell_below (unhide HB0) hbl).trans (hcell 0 h0)
    have eS : (ts.getD 0 noS).size = sz0 ts := rfl
    have ES := hide eS
    generalize ts.getD 0 noS = t0 at *
    clear hcell hc h0 hbl eS
    go_enter Tryd.func48, Tryd.ntmps48
    go_wp2
    rw [unhide ES]
    generalize w.alloc (.cells #[.int .i64 r, .int .i64 l, .slice (some ⟨b, off, none⟩) ts.length cap] 33) = w0 at *
    refine wp_region_held (S := fun W' => Below w0.heap.size w0 W') (by kernel_rfl) ?_
    have hS0 : Below w0.heap.size w0 { w0 with drawn := w0.drawn + 1 } := below_drewN (Below.refl _ _) 1
    refine wpAnyH_take (i := 0) (oi := { dst := some 15, op := Op.fieldAddr 33 (Operand.tmp 1) 0, type := 0, pos := "l05_wire.go:78", after := #[], guard := none }) (v := ?_) rfl (by kernel_rfl) (by kernel_rfl) (by kernel_rfl) (fun _ _ _ h => h) (Or.inl ⟨by rfl, ?_⟩) hS0 ?_
    rotate_left
    · intro W hSw
      obtain ⟨_, c0, c1, c2⟩ := (unhide HBC).below hSw
      go_simp
      try with_reducible rfl
    simp only [Act.put, List.setIfInBounds_toArray, List.set_cons_zero, List.set_cons_succ]
    refine wpAnyH_take (i := 1) (oi := { dst := some 16, op := Op.load 3 (Operand.tmp 15), type := 3, pos := "l05_wire.go:78", after := #[{ on := 0, ground := Ground.data }], guard := none }) (v := ?_) rfl (by kernel_rfl) (by kernel_rfl) (by kernel_rfl) (fun _ _ _ h => h) (Or.inl ⟨by rfl, ?_⟩) hS0 ?_
    rotate_left
    · intro W hSw
      obtain ⟨_, c0, c1, c2⟩ := (unhide HBC).below hSw
      go_simp
      try with_reducible rfl
    simp only [Act.put, List.setIfInBounds_toArray, List.set_cons_zero, List.set_cons_succ]
    refine wpAnyH_take (i := 3) (oi := { dst := some 18, op := Op.fieldAddr 33 (Operand.tmp 1) 1, type := 0, pos := "l05_wire.go:78", after := #[], guard := none }) (v := ?_) rfl (by kernel_rfl) (by kernel_rfl) (by kernel_rfl) (fun _ _ _ h => h) (Or.inl ⟨by rfl, ?_⟩) hS0 ?_
    rotate_left
    · intro W hSw
      obtain ⟨_, c0, c1, c2⟩ := (unhide HBC).below hSw
      go_simp
      try with_reducible rfl
    simp only [Act.put, List.setIfInBounds_toArray, List.set_cons_zero, List.set_cons_succ]
    refine wpAnyH_take (i := 4) (oi := { dst := some 19, op := Op.load 3 (Operand.tmp 18), type := 3, pos := "l05_wire.go:78", after := #[{ on := 3, ground := Ground.data }], guard := none }) (v := ?_) rfl (by kernel_rfl) (by kernel_rfl) (by kernel_rfl) (fun _ _ _ h => h) (Or.inl ⟨by rfl, ?_⟩) hS0 ?_
    rotate_left
    · intro W hSw
      obtain ⟨_, c0, c1, c2⟩ := (unhide HBC).below hSw
      go_simp
      try with_reducible rfl
    simp only [Act.put, List.setIfInBounds_toArray, List.set_cons_zero, List.set_cons_succ]
    refine wpAnyH_take (i := 5) (oi := { dst := some 20, op := Op.convert 3 5 (Operand.tmp 19), type := 5, pos := "l05_wire.go:78", after := #[{ on := 4, ground := Ground.data }], guard := none }) (v := ?_) rfl (by kernel_rfl) (by kernel_rfl) (by kernel_rfl) (fun _ _ _ h => h) (Or.inl ⟨by rfl, ?_⟩) hS0 ?_
    rotate_left
    · intro W hSw
      obtain ⟨_, c0, c1, c2⟩ := (unhide HBC).below hSw
      go_simp
      try with_reducible rfl
    simp only [Act.put, List.setIfInBounds_toArray, List.set_cons_zero, List.set_cons_succ]
    refine wpAnyH_take (i := 6) (oi := { dst := some 21, op := Op.fieldAddr 33 (Operand.tmp 1) 2, type := 0, pos := "l05_wire.go:78", after := #[], guard := none }) (v := ?_) rfl (by kernel_rfl) (by kernel_rfl) (by kernel_rfl) (fun _ _ _ h => h) (Or.inl ⟨by rfl, ?_⟩) hS0 ?_
    rotate_left
    · intro W hSw
      obtain ⟨_, c0, c1, c2⟩ := (unhide HBC).below hSw
      go_simp
      try with_reducible rfl
    simp only [Act.put, List.setIfInBounds_toArray, List.set_cons_zero, List.set_cons_succ]
    refine wpAnyH_take (i := 7) (oi := { dst := some 22, op := Op.load 31 (Operand.tmp 21), type := 31, pos := "l05_wire.go:78", after := #[{ on := 6, ground := Ground.data }], guard := none }) (v := ?_) rfl (by kernel_rfl) (by kernel_rfl) (by kernel_rfl) (fun _ _ _ h => h) (Or.inl ⟨by rfl, ?_⟩) hS0 ?_
    rotate_left
    · intro W hSw
      obtain ⟨_, c0, c1, c2⟩ := (unhide HBC).below hSw
      go_simp
      try with_reducible rfl
    simp only [Act.put, List.setIfInBounds_toArray, List.set_cons_zero, List.set_cons_succ]
    refine wpAnyH_take (i := 8) (oi := { dst := some 23, op := Op.call { callee := Callee.builtin Builtin.len, args := #[Operand.tmp 22], argTypes := #[31] }, type := 3, pos := "l05_wire.go:78", after := #[{ on := 7, ground := Ground.data }], guard := none }) (v := ?_) rfl (by kernel_rfl) (by kernel_rfl) (by kernel_rfl) (fun _ _ _ h => h) (Or.inl ⟨by rfl, ?_⟩) hS0 ?_
    rotate_left
    · intro W hSw
      obtain ⟨_, c0, c1, c2⟩ := (unhide HBC).below hSw
      go_simp
      try with_reducible rfl
    simp only [Act.put, List.setIfInBounds_toArray, List.set_cons_zero, List.set_cons_succ]
    refine wpAnyH_take (i := 9) (oi := { dst := some 24, op := Op.convert 3 5 (Operand.tmp 23), type := 5, pos := "l05_wire.go:78", after := #[{ on := 8, ground := Ground.data }], guard := none }) (v := ?_) rfl (by kernel_rfl) (by kernel_rfl) (by kernel_rfl) (fun _ _ _ h => h) (Or.inl ⟨by rfl, ?_⟩) hS0 ?_
    rotate_left
    · intro W hSw
      obtain ⟨_, c0, c1, c2⟩ := (unhide HBC).below hSw
      go_simp
      try with_reducible rfl
    simp only [Act.put, List.setIfInBounds_toArray, List.set_cons_zero, List.set_cons_succ]
    refine wpAnyH_two (i := 2) (j := 10) (by kernel_rfl) ?_ ?_
    · refine wpOp_step (o := { dst := some 17, op := Op.call { callee := Callee.value (Operand.func 61), args := #[Operand.tmp 16, Operand.const (Value.int IntKind.i64 4)], argTypes := #[3, 3] }, type := 22, pos := "l05_wire.go:78", after := #[{ on := 1, ground := Ground.data }], guard := none }) rfl fun K' hK => step_enterW (by rfl) 61 #[.int .i64 r, .int .i64 4] (by go_simp) ((unhide c35a _).mono ?_)
      rintro e w2 ⟨v2, rfl, o2, f2, b2⟩
      have d2b := bl_st b2 hS0
      refine ⟨_, rfl, hK _ _ ⟨d2b, ?_⟩⟩
      simp only [Act.put, List.setIfInBounds_toArray, List.set_cons_zero, List.set_cons_succ]
      refine wpAnyH_one (i := 10) (by kernel_rfl) ?_
      refine wpOp_step (o := { dst := some 25, op := Op.buildSlice 22 2 #[(0, Operand.tmp 20), (1, Operand.tmp 24)], type := 22, pos := "l05_wire.go:78", after := #[{ on := 5, ground := Ground.data }, { on := 9, ground := Ground.data }], guard := none }) rfl fun K' hK => step_valueW (by rfl) (.slice (some ⟨w2.heap.size, 0, none⟩) 2 2) (w2.alloc (.cells #[.int .u8 (IntKind.u8.wrap l), .int .u8 (IntKind.u8.wrap (ts.length : Int))] 5)) (by go_simp) ?_
      refine hK _ _ ⟨bl_al d2b, ?_⟩
      simp only [Act.put, List.setIfInBounds_toArray, List.set_cons_zero, List.set_cons_succ]
      refine wpAnyH_one (i := 11) (by kernel_rfl) ?_
      refine wpOp_step (o := { dst := some 26, op := Op.call { callee := Callee.builtin Builtin.append, args := #[Operand.tmp 17, Operand.tmp 25], argTypes := #[22, 22] }, type := 22, pos := "l05_wire.go:78", after := #[{ on := 2, ground := Ground.data }, { on := 10, ground := Ground.data }, { on := 2, ground := Ground.chain }], guard := none }) rfl fun K' hK => step_append_bytes _ (by rfl) _ _ (by rfl) w0.heap.size 4 v2 (num4 r) (by rfl) ((own_below o2 (bl_al (Below.refl _ _)))) f2 _ [l % 256, (ts.length : Int) % 256] (by rfl) (two_new w2 l (ts.length : Int)) (by show 4 + 2 ≤ 4194304; omega) (bl_al d2b).size ?_
      intro g3 c3 w3 o3 gr3
      have b3 : Below w0.heap.size w0 w3 := Below.grown (bl_al d2b) gr3 (bl_al d2b).size (fun k hk => (o2.lt k hk).1)
      refine hK _ _ ⟨b3, ?_⟩
      simp only [Act.put, List.setIfInBounds_toArray, List.set_cons_zero, List.set_cons_succ]
      refine wpAnyH_take (i := 12) (oi := { dst := some 4, op := Op.assign (Operand.tmp 26), type := 22, pos := "l05_wire.go:78", after := #[{ on := 11, ground := Ground.data }, { on := 11, ground := Ground.chain }, { on := 0, ground := Ground.phase }, { on := 1, ground := Ground.phase }, { on := 2, ground := Ground.phase }, { on := 3, ground := Ground.phase }, { on := 4, ground := Ground.phase }, { on := 5, ground := Ground.phase }, { on := 6, ground := Ground.phase }, { on := 7, ground := Ground.phase }, { on := 8, ground := Ground.phase }, { on := 9, ground := Ground.phase }, { on := 10, ground := Ground.phase }, { on := 11, ground := Ground.phase }], guard := none }) (v := ?_) rfl (by kernel_rfl) (by kernel_rfl) (by kernel_rfl) (fun _ _ _ h => h) (Or.inl ⟨by rfl, ?_⟩) b3 ?_
      rotate_left
      · intro W hSw
        obtain ⟨_, c0, c1, c2⟩ := (unhide HBC).below hSw
        go_simp
        try with_reducible rfl
      simp only [Act.put, List.setIfInBounds_toArray, List.set_cons_zero, List.set_cons_succ]
      refine wpAnyH_done (by kernel_rfl) ?_ _
      have O3 := hide (show w3.ownsRow w0.heap.size 5 1 (.slice (some ⟨g3, 0, none⟩) 6 c3) 6 ((num4 r ++ [l % 256, (ts.length : Int) % 256]).map (Value.int .u8)) from o3)
      have B3 := hide b3
      clear o3 gr3 b3 d2b b2 o2 f2 hS0
      go_wp2_with fail
      refine (unhide c35b w3).mono ?_
      rintro e w4 ⟨v4, rfl, o4, f4, b4⟩
      have O4 := hide o4
      have F4 := hide f4
      have B4 := hide b4
      clear o4 f4 b4
      go_wp2_with (at_builtin; refine wpList_append_bytes _ rfl _ _ rfl w0.heap.size 6 _ _ rfl (own_below (unhide O3) (unhide B4)) ⟨_, _, rfl⟩ _ _ rfl (own_bytes (unhide O4) (unhide F4) rfl (num2_isB _)) (by show 6 + 2 ≤ 4194304; omega) (Nat.le_trans (unhide B3).size (unhide B4).size) ?_; intro g5 c5 w5 o5 gr5)
      have B5 := hide (Below.grown (bl_st (unhide B4) (unhide B3)) gr5 (Nat.le_trans (unhide B3).size (unhide B4).size) (fun k hk => ((unhide O3).lt k hk).1))
      have O5 := hide (show w5.ownsRow w0.heap.size 5 1 (.slice (some ⟨g5, 0, none⟩) 8 c5) 8 ((bH r l ts ++ flatT (ts.take 0)).map (Value.int .u8)) by
        rw [show flatT (ts.take 0) = [] by simp [flatT], List.append_nil]
        exact o5)
      rw [show 6 + (num2 (sz0 ts : Int)).length = 8 from rfl]
      clear o5 gr5 O3 O4 F4 B4 B3 c35a c35b
      go_loopw [4, 5] (fun ov iv wr => ∃ (j g c : Nat), j ≤ ts.length ∧ iv = .int .i64 j ∧ ov = .slice (some ⟨g, 0, none⟩) (8 + (flatT (ts.take j)).length) c ∧ wr.ownsRow w0.heap.size 5 1 (.slice (some ⟨g, 0, none⟩) (8 + (flatT (ts.take j)).length) c) (8 + (flatT (ts.take j)).length) ((bH r l ts ++ flatT (ts.take j)).map (Value.int .u8)) ∧ Below w0.heap.size w0 wr) (fun _ iv _ => ts.length - (intOf iv).toNat)
      case atStart => exact ⟨0, g5, c5, Nat.zero_le _, rfl, by simp [flatT], by rw [show (flatT (ts.take 0)).length = 0 by simp [flatT]]; exact unhide O5, unhide B5⟩
      case round =>
        obtain ⟨j, g, c, hj, rfl, rfl, own, hb⟩ := hrel
        have e2 := (unhide HBC).below hb
        obtain ⟨_, _, _, e2⟩ := e2
        have LEN := flatT_len ts (unhide H400) j hj
        have L64 := unhide H64
        by_cases hlt : j < ts.length
        · obtain ⟨A', cap', ev, hcc⟩ := (unhide HV).below hb
          simp only [Value.slice.injEq] at ev
          obtain ⟨rfl, _, rfl⟩ := ev
          obtain ⟨b', off', hA, hbl', hcell'⟩ := hcc (by omega)
          simp only [Option.some.injEq, Addr.mk.injEq, and_true] at hA
          obtain ⟨rfl, rfl⟩ := hA
          have q1 : (j : Int) < (ts.length : Int) := by omega
          have q0 : (0 : Int) ≤ (j : Int) := by omega
          have p1 := hcell' j hlt
          have E := hide (flatT_take ts j hlt)
          have S4 := unhide H400 (ts.getD j noS) (by rw [List.getD_eq_getElem?_getD, List.getElem?_eq_getElem hlt]; exact List.getElem_mem _)
          have HJ := hide hlt
          have OW := hide own
          have HB := hide hb
          have BND : Hid (8 + (flatT (ts.take j)).length + (ts.getD j noS).size ≤ 4194304) := hide (by omega)
          clear hcell' hcc hlt hj hbl' own hb LEN L64 S4
          generalize ts.getD j noS = t at *
          generalize flatT (ts.take j) = F at *
          go_wp2_with (at_builtin; refine wpList_append_text _ rfl _ _ rfl w0.heap.size (8 + F.length) _ (bH r l ts ++ F) rfl (unhide OW) ⟨_, _, rfl⟩ t rfl (unhide BND) (unhide HB).size ?_; intro g6 c6 w6 o6 gr6)
          have B6 := hide (Below.grown (unhide HB) gr6 (unhide HB).size (fun k hk => ((unhide OW).lt k hk).1))
          have O6 := hide o6
          clear o6 gr6 OW HB
          go_wp2
          go_roundw
          case rel => exact ⟨j + 1, g6, c6, unhide HJ, by go_num, by rw [unhide E, List.length_append, txt_len, Nat.add_assoc], by rw [unhide E, List.length_append, txt_len, ← Nat.add_assoc, ← List.append_assoc]; exact unhide O6, unhide B6⟩
          case measure => have := unhide HJ; simp [intOf]; omega
        · obtain rfl : j = ts.length := by omega
          rw [List.take_length] at own
          have OW := hide own
          have HB := hide hb
          clear own hb hlt LEN
          rw [List.take_length]
          go_wp2
          go_ret
          obtain ⟨g', c', rest, hval, hgb, hgl, hcap, hrow⟩ := own_rowB (unhide OW) ⟨_, _, rfl⟩
          have hlen : (bB r l ts).length = 8 + (flatT ts).length := by unfold bB; rw [List.length_append, bH_len]
          refine ⟨_, rfl, ⟨bB_isB r l ts, .inr ⟨g', c', rest, ?_, Nat.le_trans (unhide HB0).size hgb, hrow, ?_⟩⟩, bl_st (unhide HB) (unhide HB0)⟩
          · rw [hlen]; exact hval
          · rw [hlen]; exact hcap
    · refine wpOp_step (o := { dst := some 25, op := Op.buildSlice 22 2 #[(0, Operand.tmp 20), (1, Operand.tmp 24)], type := 22, pos := "l05_wire.go:78", after := #[{ on := 5, ground := Ground.data }, { on := 9, ground := Ground.data }], guard := none }) rfl fun K' hK => step_valueW (by rfl) (.slice (some ⟨w0.heap.size, 0, none⟩) 2 2) ((World.drewN w0 1).alloc (.cells #[.int .u8 (IntKind.u8.wrap l), .int .u8 (IntKind.u8.wrap (ts.length : Int))] 5)) (by (go_simp; try rfl)) ?_
      refine hK _ _ ⟨bl_al hS0, ?_⟩
      simp only [Act.put, List.setIfInBounds_toArray, List.set_cons_zero, List.set_cons_succ]
      refine wpAnyH_one (i := 2) (by kernel_rfl) ?_
      refine wpOp_step (o := { dst := some 17, op := Op.call { callee := Callee.value (Operand.func 61), args := #[Operand.tmp 16, Operand.const (Value.int IntKind.i64 4)], argTypes := #[3, 3] }, type := 22, pos := "l05_wire.go:78", after := #[{ on := 1, ground := Ground.data }], guard := none }) rfl fun K' hK => step_enterW (by rfl) 61 #[.int .i64 r, .int .i64 4] (by go_simp) ((unhide c35a _).mono ?_)
      rintro e w2 ⟨v2, rfl, o2, f2, b2⟩
      have d2b := bl_st b2 (bl_al hS0)
      refine ⟨_, rfl, hK _ _ ⟨d2b, ?_⟩⟩
      simp only [Act.put, List.setIfInBounds_toArray, List.set_cons_zero, List.set_cons_succ]
      refine wpAnyH_one (i := 11) (by kernel_rfl) ?_
      refine wpOp_step (o := { dst := some 26, op := Op.call { callee := Callee.builtin Builtin.append, args := #[Operand.tmp 17, Operand.tmp 25], argTypes := #[22, 22] }, type := 22, pos := "l05_wire.go:78", after := #[{ on := 2, ground := Ground.data }, { on := 10, ground := Ground.data }, { on := 2, ground := Ground.chain }], guard := none }) rfl fun K' hK => step_append_bytes _ (by rfl) _ _ (by rfl) w0.heap.size 4 v2 (num4 r) (by rfl) (own_lower o2 (bl_al hS0).size) f2 _ [l % 256, (ts.length : Int) % 256] (by rfl) ((two_new (World.drewN w0 1) l (ts.length : Int)).below b2) (by show 4 + 2 ≤ 4194304; omega) d2b.size ?_
      intro g3 c3 w3 o3 gr3
      have b3 : Below w0.heap.size w0 w3 := Below.grown d2b gr3 d2b.size (fun k hk => Nat.le_trans (bl_al hS0).size (o2.lt k hk).1)
      refine hK _ _ ⟨b3, ?_⟩
      simp only [Act.put, List.setIfInBounds_toArray, List.set_cons_zero, List.set_cons_succ]
      refine wpAnyH_take (i := 12) (oi := { dst := some 4, op := Op.assign (Operand.tmp 26), type := 22, pos := "l05_wire.go:78", after := #[{ on := 11, ground := Ground.data }, { on := 11, ground := Ground.chain }, { on := 0, ground := Ground.phase }, { on := 1, ground := Ground.phase }, { on := 2, ground := Ground.phase }, { on := 3, ground := Ground.phase }, { on := 4, ground := Ground.phase }, { on := 5, ground := Ground.phase }, { on := 6, ground := Ground.phase }, { on := 7, ground := Ground.phase }, { on := 8, ground := Ground.phase }, { on := 9, ground := Ground.phase }, { on := 10, ground := Ground.phase }, { on := 11, ground := Ground.phase }], guard := none }) (v := ?_) rfl (by kernel_rfl) (by kernel_rfl) (by kernel_rfl) (fun _ _ _ h => h) (Or.inl ⟨by rfl, ?_⟩) b3 ?_
      rotate_left
      · intro W hSw
        obtain ⟨_, c0, c1, c2⟩ := (unhide HBC).below hSw
        go_simp
        try with_reducible rfl
      simp only [Act.put, List.setIfInBounds_toArray, List.set_cons_zero, List.set_cons_succ]
      refine wpAnyH_done (by kernel_rfl) ?_ _
      have O3 := hide (show w3.ownsRow w0.heap.size 5 1 (.slice (some ⟨g3, 0, none⟩) 6 c3) 6 ((num4 r ++ [l % 256, (ts.length : Int) % 256]).map (Value.int .u8)) from o3)
      have B3 := hide b3
      clear o3 gr3 b3 d2b b2 o2 f2 hS0
      go_wp2_with fail
      refine (unhide c35b w3).mono ?_
      rintro e w4 ⟨v4, rfl, o4, f4, b4⟩
      have O4 := hide o4
      have F4 := hide f4
      have B4 := hide b4
      clear o4 f4 b4
      go_wp2_with (at_builtin; refine wpList_append_bytes _ rfl _ _ rfl w0.heap.size 6 _ _ rfl (own_below (unhide O3) (unhide B4)) ⟨_, _, rfl⟩ _ _ rfl (own_bytes (unhide O4) (unhide F4) rfl (num2_isB _)) (by show 6 + 2 ≤ 4194304; omega) (Nat.le_trans (unhide B3).size (unhide B4).size) ?_; intro g5 c5 w5 o5 gr5)
      have B5 := hide (Below.grown (bl_st (unhide B4) (unhide B3)) gr5 (Nat.le_trans (unhide B3).size (unhide B4).size) (fun k hk => ((unhide O3).lt k hk).1))
      have O5 := hide (show w5.ownsRow w0.heap.size 5 1 (.slice (some ⟨g5, 0, none⟩) 8 c5) 8 ((bH r l ts ++ flatT (ts.take 0)).map (Value.int .u8)) by
        rw [show flatT (ts.take 0) = [] by simp [flatT], List.append_nil]
        exact o5)
      rw [show 6 + (num2 (sz0 ts : Int)).length = 8 from rfl]
      clear o5 gr5 O3 O4 F4 B4 B3 c35a c35b
      go_loopw [4, 5] (fun ov iv wr => ∃ (j g c : Nat), j ≤ ts.length ∧ iv = .int .i64 j ∧ ov = .slice (some ⟨g, 0, none⟩) (8 + (flatT (ts.take j)).length) c ∧ wr.ownsRow w0.heap.size 5 1 (.slice (some ⟨g, 0, none⟩) (8 + (flatT (ts.take j)).length) c) (8 + (flatT (ts.take j)).length) ((bH r l ts ++ flatT (ts.take j)).map (Value.int .u8)) ∧ Below w0.heap.size w0 wr) (fun _ iv _ => ts.length - (intOf iv).toNat)
      case atStart => exact ⟨0, g5, c5, Nat.zero_le _, rfl, by simp [flatT], by rw [show (flatT (ts.take 0)).length = 0 by simp [flatT]]; exact unhide O5, unhide B5⟩
      case round =>
        obtain ⟨j, g, c, hj, rfl, rfl, own, hb⟩ := hrel
        have e2 := (unhide HBC).below hb
        obtain ⟨_, _, _, e2⟩ := e2
        have LEN := flatT_len ts (unhide H400) j hj
        have L64 := unhide H64
        by_cases hlt : j < ts.length
        · obtain ⟨A', cap', ev, hcc⟩ := (unhide HV).below hb
          simp only [Value.slice.injEq] at ev
          obtain ⟨rfl, _, rfl⟩ := ev
          obtain ⟨b', off', hA, hbl', hcell'⟩ := hcc (by omega)
          simp only [Option.some.injEq, Addr.mk.injEq, and_true] at hA
          obtain ⟨rfl, rfl⟩ := hA
          have q1 : (j : Int) < (ts.length : Int) := by omega
          have q0 : (0 : Int) ≤ (j : Int) := by omega
          have p1 := hcell' j hlt
          have E := hide (flatT_take ts j hlt)
          have S4 := unhide H400 (ts.getD j noS) (by rw [List.getD_eq_getElem?_getD, List.getElem?_eq_getElem hlt]; exact List.getElem_mem _)
          have HJ := hide hlt
          have OW := hide own
          have HB := hide hb
          have BND : Hid (8 + (flatT (ts.take j)).length + (ts.getD j noS).size ≤ 4194304) := hide (by omega)
          clear hcell' hcc hlt hj hbl' own hb LEN L64 S4
          generalize ts.getD j noS = t at *
          generalize flatT (ts.take j) = F at *
          go_wp2_with (at_builtin; refine wpList_append_text _ rfl _ _ rfl w0.heap.size (8 + F.length) _ (bH r l ts ++ F) rfl (unhide OW) ⟨_, _, rfl⟩ t rfl (unhide BND) (unhide HB).size ?_; intro g6 c6 w6 o6 gr6)
          have B6 := hide (Below.grown (unhide HB) gr6 (unhide HB).size (fun k hk => ((unhide OW).lt k hk).1))
          have O6 := hide o6
          clear o6 gr6 OW HB
          go_wp2
          go_roundw
          case rel => exact ⟨j + 1, g6, c6, unhide HJ, by go_num, by rw [unhide E, List.length_append, txt_len, Nat.add_assoc], by rw [unhide E, List.length_append, txt_len, ← Nat.add_assoc, ← List.append_assoc]; exact unhide O6, unhide B6⟩
          case measure => have := unhide HJ; simp [intOf]; omega
        · obtain rfl : j = ts.length := by omega
          rw [List.take_length] at own
          have OW := hide own
          have HB := hide hb
          clear own hb hlt LEN
          rw [List.take_length]
          go_wp2
          go_ret
          obtain ⟨g', c', rest, hval, hgb, hgl, hcap, hrow⟩ := own_rowB (unhide OW) ⟨_, _, rfl⟩
          have hlen : (bB r l ts).length = 8 + (flatT ts).length := by unfold bB; rw [List.length_append, bH_len]
          refine ⟨_, rfl, ⟨bB_isB r l ts, .inr ⟨g', c', rest, ?_, Nat.le_trans (unhide HB0).size hgb, hrow, ?_⟩⟩, bl_st (unhide HB) (unhide HB0)⟩
          · rw [hlen]; exact hval
          · rw [hlen]; exact hcap
  · have q : (ts.length : Int) = 0 := by omega
    have hz0 : sz0 ts = 0 := by unfold sz0; rw [List.getD_eq_getElem?_getD, List.getElem?_eq_none (by omega)]; rfl
    have c35b : Hid (∀ w : World, Calls Tryd.prog 61 #[.int .i64 0, .int .i64 2] w fun e w' => ∃ v, e = .returned v ∧ w'.ownsRow w.heap.size 5 1 v 2 ((num2 0).map (Value.int .u8)) ∧ (∃ g c, v = .slice (some ⟨g, 0, none⟩) 2 c) ∧ Below w.heap.size w w') := hide (num24_2 0)
    clear hc h0
    go_enter Tryd.func48, Tryd.ntmps48
    go_wp2
    generalize w.alloc (.cells #[.int .i64 r, .int .i64 l, .slice A ts.length cap] 33) = w0 at *
    refine wp_region_held (S := fun W' => Below w0.heap.size w0 W') (by kernel_rfl) ?_
    have hS0 : Below w0.heap.size w0 { w0 with drawn := w0.drawn + 1 } := below_drewN (Below.refl _ _) 1
    refine wpAnyH_take (i := 0) (oi := { dst := some 15, op := Op.fieldAddr 33 (Operand.tmp 1) 0, type := 0, pos := "l05_wire.go:78", after := #[], guard := none }) (v := ?_) rfl (by kernel_rfl) (by kernel_rfl) (by kernel_rfl) (fun _ _ _ h => h) (Or.inl ⟨by rfl, ?_⟩) hS0 ?_
    rotate_left
    · intro W hSw
      obtain ⟨_, c0, c1, c2⟩ := (unhide HBC).below hSw
      go_simp
      try with_reducible rfl
    simp only [Act.put, List.setIfInBounds_toArray, List.set_cons_zero, List.set_cons_succ]
    refine wpAnyH_take (i := 1) (oi := { dst := some 16, op := Op.load 3 (Operand.tmp 15), type := 3, pos := "l05_wire.go:78", after := #[{ on := 0, ground := Ground.data }], guard := none }) (v := ?_) rfl (by kernel_rfl) (by kernel_rfl) (by kernel_rfl) (fun _ _ _ h => h) (Or.inl ⟨by rfl, ?_⟩) hS0 ?_
    rotate_left
    · intro W hSw
      obtain ⟨_, c0, c1, c2⟩ := (unhide HBC).below hSw
      go_simp
      try with_reducible rfl
    simp only [Act.put, List.setIfInBounds_toArray, List.set_cons_zero, List.set_cons_succ]
    refine wpAnyH_take (i := 3) (oi := { dst := some 18, op := Op.fieldAddr 33 (Operand.tmp 1) 1, type := 0, pos := "l05_wire.go:78", after := #[], guard := none }) (v := ?_) rfl (by kernel_rfl) (by kernel_rfl) (by kernel_rfl) (fun _ _ _ h => h) (Or.inl ⟨by rfl, ?_⟩) hS0 ?_
    rotate_left
    · intro W hSw
      obtain ⟨_, c0, c1, c2⟩ := (unhide HBC).below hSw
      go_simp
      try with_reducible rfl
    simp only [Act.put, List.setIfInBounds_toArray, List.set_cons_zero, List.set_cons_succ]
    refine wpAnyH_take (i := 4) (oi := { dst := some 19, op := Op.load 3 (Operand.tmp 18), type := 3, pos := "l05_wire.go:78", after := #[{ on := 3, ground := Ground.data }], guard := none }) (v := ?_) rfl (by kernel_rfl) (by kernel_rfl) (by kernel_rfl) (fun _ _ _ h => h) (Or.inl ⟨by rfl, ?_⟩) hS0 ?_
    rotate_left
    · intro W hSw
      obtain ⟨_, c0, c1, c2⟩ := (unhide HBC).below hSw
      go_simp
      try with_reducible rfl
    simp only [Act.put, List.setIfInBounds_toArray, List.set_cons_zero, List.set_cons_succ]
    refine wpAnyH_take (i := 5) (oi := { dst := some 20, op := Op.convert 3 5 (Operand.tmp 19), type := 5, pos := "l05_wire.go:78", after := #[{ on := 4, ground := Ground.data }], guard := none }) (v := ?_) rfl (by kernel_rfl) (by kernel_rfl) (by kernel_rfl) (fun _ _ _ h => h) (Or.inl ⟨by rfl, ?_⟩) hS0 ?_
    rotate_left
    · intro W hSw
      obtain ⟨_, c0, c1, c2⟩ := (unhide HBC).below hSw
      go_simp
      try with_reducible rfl
    simp only [Act.put, List.setIfInBounds_toArray, List.set_cons_zero, List.set_cons_succ]
    refine wpAnyH_take (i := 6) (oi := { dst := some 21, op := Op.fieldAddr 33 (Operand.tmp 1) 2, type := 0, pos := "l05_wire.go:78", after := #[], guard := none }) (v := ?_) rfl (by kernel_rfl) (by kernel_rfl) (by kernel_rfl) (fun _ _ _ h => h) (Or.inl ⟨by rfl, ?_⟩) hS0 ?_
    rotate_left
    · intro W hSw
      obtain ⟨_, c0, c1, c2⟩ := (unhide HBC).below hSw
      go_simp
      try with_reducible rfl
    simp only [Act.put, List.setIfInBounds_toArray, List.set_cons_zero, List.set_cons_succ]
    refine wpAnyH_take (i := 7) (oi := { dst := some 22, op := Op.load 31 (Operand.tmp 21), type := 31, pos := "l05_wire.go:78", after := #[{ on := 6, ground := Ground.data }], guard := none }) (v := ?_) rfl (by kernel_rfl) (by kernel_rfl) (by kernel_rfl) (fun _ _ _ h => h) (Or.inl ⟨by rfl, ?_⟩) hS0 ?_
    rotate_left
    · intro W hSw
      obtain ⟨_, c0, c1, c2⟩ := (unhide HBC).below hSw
      go_simp
      try with_reducible rfl
    simp only [Act.put, List.setIfInBounds_toArray, List.set_cons_zero, List.set_cons_succ]
    refine wpAnyH_take (i := 8) (oi := { dst := some 23, op := Op.call { callee := Callee.builtin Builtin.len, args := #[Operand.tmp 22], argTypes := #[31] }, type := 3, pos := "l05_wire.go:78", after := #[{ on := 7, ground := Ground.data }], guard := none }) (v := ?_) rfl (by kernel_rfl) (by kernel_rfl) (by kernel_rfl) (fun _ _ _ h => h) (Or.inl ⟨by rfl, ?_⟩) hS0 ?_
    rotate_left
    · intro W hSw
      obtain ⟨_, c0, c1, c2⟩ := (unhide HBC).below hSw
      go_simp
      try with_reducible rfl
    simp only [Act.put, List.setIfInBounds_toArray, List.set_cons_zero, List.set_cons_succ]
    refine wpAnyH_take (i := 9) (oi := { dst := some 24, op := Op.convert 3 5 (Operand.tmp 23), type := 5, pos := "l05_wire.go:78", after := #[{ on := 8, ground := Ground.data }], guard := none }) (v := ?_) rfl (by kernel_rfl) (by kernel_rfl) (by kernel_rfl) (fun _ _ _ h => h) (Or.inl ⟨by rfl, ?_⟩) hS0 ?_
    rotate_left
    · intro W hSw
      obtain ⟨_, c0, c1, c2⟩ := (unhide HBC).below hSw
      go_simp
      try with_reducible rfl
    simp only [Act.put, List.setIfInBounds_toArray, List.set_cons_zero, List.set_cons_succ]
    refine wpAnyH_two (i := 2) (j := 10) (by kernel_rfl) ?_ ?_
    · refine wpOp_step (o := { dst := some 17, op := Op.call { callee := Callee.value (Operand.func 61), args := #[Operand.tmp 16, Operand.const (Value.int IntKind.i64 4)], argTypes := #[3, 3] }, type := 22, pos := "l05_wire.go:78", after := #[{ on := 1, ground := Ground.data }], guard := none }) rfl fun K' hK => step_enterW (by rfl) 61 #[.int .i64 r, .int .i64 4] (by go_simp) ((unhide c35a _).mono ?_)
      rintro e w2 ⟨v2, rfl, o2, f2, b2⟩
      have d2b := bl_st b2 hS0
      refine ⟨_, rfl, hK _ _ ⟨d2b, ?_⟩⟩
      simp only [Act.put, List.setIfInBounds_toArray, List.set_cons_zero, List.set_cons_succ]
      refine wpAnyH_one (i := 10) (by kernel_rfl) ?_
      refine wpOp_step (o := { dst := some 25, op := Op.buildSlice 22 2 #[(0, Operand.tmp 20), (1, Operand.tmp 24)], type := 22, pos := "l05_wire.go:78", after := #[{ on := 5, ground := Ground.data }, { on := 9, ground := Ground.data }], guard := none }) rfl fun K' hK => step_valueW (by rfl) (.slice (some ⟨w2.heap.size, 0, none⟩) 2 2) (w2.alloc (.cells #[.int .u8 (IntKind.u8.wrap l), .int .u8 (IntKind.u8.wrap (ts.length : Int))] 5)) (by go_simp) ?_
      refine hK _ _ ⟨bl_al d2b, ?_⟩
      simp only [Act.put, List.setIfInBounds_toArray, List.set_cons_zero, List.set_cons_succ]
      refine wpAnyH_one (i := 11) (by kernel_rfl) ?_
      refine wpOp_step (o := { dst := some 26, op := Op.call { callee := Callee.builtin Builtin.append, args := #[Operand.tmp 17, Operand.tmp 25], argTypes := #[22, 22] }, type := 22, pos := "l05_wire.go:78", after := #[{ on := 2, ground := Ground.data }, { on := 10, ground := Ground.data }, { on := 2, ground := Ground.chain }], guard := none }) rfl fun K' hK => step_append_bytes _ (by rfl) _ _ (by rfl) w0.heap.size 4 v2 (num4 r) (by rfl) ((own_below o2 (bl_al (Below.refl _ _)))) f2 _ [l % 256, (ts.length : Int) % 256] (by rfl) (two_new w2 l (ts.length : Int)) (by show 4 + 2 ≤ 4194304; omega) (bl_al d2b).size ?_
      intro g3 c3 w3 o3 gr3
      have b3 : Below w0.heap.size w0 w3 := Below.grown (bl_al d2b) gr3 (bl_al d2b).size (fun k hk => (o2.lt k hk).1)
      refine hK _ _ ⟨b3, ?_⟩
      simp only [Act.put, List.setIfInBounds_toArray, List.set_cons_zero, List.set_cons_succ]
      refine wpAnyH_take (i := 12) (oi := { dst := some 4, op := Op.assign (Operand.tmp 26), type := 22, pos := "l05_wire.go:78", after := #[{ on := 11, ground := Ground.data }, { on := 11, ground := Ground.chain }, { on := 0, ground := Ground.phase }, { on := 1, ground := Ground.phase }, { on := 2, ground := Ground.phase }, { on := 3, ground := Ground.phase }, { on := 4, ground := Ground.phase }, { on := 5, ground := Ground.phase }, { on := 6, ground := Ground.phase }, { on := 7, ground := Ground.phase }, { on := 8, ground := Ground.phase }, { on := 9, ground := Ground.phase }, { on := 10, ground := Ground.phase }, { on := 11, ground := Ground.phase }], guard := none }) (v := ?_) rfl (by kernel_rfl) (by kernel_rfl) (by kernel_rfl) (fun _ _ _ h => h) (Or.inl ⟨by rfl, ?_⟩) b3 ?_
      rotate_left
      · intro W hSw
        obtain ⟨_, c0, c1, c2⟩ := (unhide HBC).below hSw
        go_simp
        try with_reducible rfl
      simp only [Act.put, List.setIfInBounds_toArray, List.set_cons_zero, List.set_cons_succ]
      refine wpAnyH_done (by kernel_rfl) ?_ _
      have O3 := hide (show w3.ownsRow w0.heap.size 5 1 (.slice (some ⟨g3, 0, none⟩) 6 c3) 6 ((num4 r ++ [l % 256, (ts.length : Int) % 256]).map (Value.int .u8)) from o3)
      have B3 := hide b3
      clear o3 gr3 b3 d2b b2 o2 f2 hS0
      go_wp2_with fail
      refine (unhide c35b w3).mono ?_
      rintro e w4 ⟨v4, rfl, o4, f4, b4⟩
      have O4 := hide o4
      have F4 := hide f4
      have B4 := hide b4
      clear o4 f4 b4
      go_wp2_with (at_builtin; refine wpList_append_bytes _ rfl _ _ rfl w0.heap.size 6 _ _ rfl (own_below (unhide O3) (unhide B4)) ⟨_, _, rfl⟩ _ _ rfl (own_bytes (unhide O4) (unhide F4) rfl (num2_isB _)) (by show 6 + 2 ≤ 4194304; omega) (Nat.le_trans (unhide B3).size (unhide B4).size) ?_; intro g5 c5 w5 o5 gr5)
      have B5 := hide (Below.grown (bl_st (unhide B4) (unhide B3)) gr5 (Nat.le_trans (unhide B3).size (unhide B4).size) (fun k hk => ((unhide O3).lt k hk).1))
      have O5 := hide (show w5.ownsRow w0.heap.size 5 1 (.slice (some ⟨g5, 0, none⟩) 8 c5) 8 ((bH r l ts ++ flatT (ts.take 0)).map (Value.int .u8)) by
        rw [show flatT (ts.take 0) = [] by simp [flatT], List.append_nil]
        exact (by have := o5; rw [show (num2 0) = num2 (sz0 ts : Int) by rw [hz0]; rfl] at this; exact this))
      rw [show 6 + (num2 0).length = 8 from rfl]
      clear o5 gr5 O3 O4 F4 B4 B3 c35a c35b
      go_loopw [4, 5] (fun ov iv wr => ∃ (j g c : Nat), j ≤ ts.length ∧ iv = .int .i64 j ∧ ov = .slice (some ⟨g, 0, none⟩) (8 + (flatT (ts.take j)).length) c ∧ wr.ownsRow w0.heap.size 5 1 (.slice (some ⟨g, 0, none⟩) (8 + (flatT (ts.take j)).length) c) (8 + (flatT (ts.take j)).length) ((bH r l ts ++ flatT (ts.take j)).map (Value.int .u8)) ∧ Below w0.heap.size w0 wr) (fun _ iv _ => ts.length - (intOf iv).toNat)
      case atStart => exact ⟨0, g5, c5, Nat.zero_le _, rfl, by simp [flatT], by rw [show (flatT (ts.take 0)).length = 0 by simp [flatT]]; exact unhide O5, unhide B5⟩
      case round =>
        obtain ⟨j, g, c, hj, rfl, rfl, own, hb⟩ := hrel
        have e2 := (unhide HBC).below hb
        obtain ⟨_, _, _, e2⟩ := e2
        have LEN := flatT_len ts (unhide H400) j hj
        have L64 := unhide H64
        by_cases hlt : j < ts.length
        · exfalso; omega
        · obtain rfl : j = ts.length := by omega
          rw [List.take_length] at own
          have OW := hide own
          have HB := hide hb
          clear own hb hlt LEN
          rw [List.take_length]
          go_wp2
          go_ret
          obtain ⟨g', c', rest, hval, hgb, hgl, hcap, hrow⟩ := own_rowB (unhide OW) ⟨_, _, rfl⟩
          have hlen : (bB r l ts).length = 8 + (flatT ts).length := by unfold bB; rw [List.length_append, bH_len]
          refine ⟨_, rfl, ⟨bB_isB r l ts, .inr ⟨g', c', rest, ?_, Nat.le_trans (unhide HB0).size hgb, hrow, ?_⟩⟩, bl_st (unhide HB) (unhide HB0)⟩
          · rw [hlen]; exact hval
          · rw [hlen]; exact hcap
    · refine wpOp_step (o := { dst := some 25, op := Op.buildSlice 22 2 #[(0, Operand.tmp 20), (1, Operand.tmp 24)], type := 22, pos := "l05_wire.go:78", after := #[{ on := 5, ground := Ground.data }, { on := 9, ground := Ground.data }], guard := none }) rfl fun K' hK => step_valueW (by rfl) (.slice (some ⟨w0.heap.size, 0, none⟩) 2 2) ((World.drewN w0 1).alloc (.cells #[.int .u8 (IntKind.u8.wrap l), .int .u8 (IntKind.u8.wrap (ts.length : Int))] 5)) (by (go_simp; try rfl)) ?_
      refine hK _ _ ⟨bl_al hS0, ?_⟩
      simp only [Act.put, List.setIfInBounds_toArray, List.set_cons_zero, List.set_cons_succ]
      refine wpAnyH_one (i := 2) (by kernel_rfl) ?_
      refine wpOp_step (o := { dst := some 17, op := Op.call { callee := Callee.value (Operand.func 61), args := #[Operand.tmp 16, Operand.const (Value.int IntKind.i64 4)], argTypes := #[3, 3] }, type := 22, pos := "l05_wire.go:78", after := #[{ on := 1, ground := Ground.data }], guard := none }) rfl fun K' hK => step_enterW (by rfl) 61 #[.int .i64 r, .int .i64 4] (by go_simp) ((unhide c35a _).mono ?_)
      rintro e w2 ⟨v2, rfl, o2, f2, b2⟩
      have d2b := bl_st b2 (bl_al hS0)
      refine ⟨_, rfl, hK _ _ ⟨d2b, ?_⟩⟩
      simp only [Act.put, List.setIfInBounds_toArray, List.set_cons_zero, List.set_cons_succ]
      refine wpAnyH_one (i := 11) (by kernel_rfl) ?_
      refine wpOp_step (o := { dst := some 26, op := Op.call { callee := Callee.builtin Builtin.append, args := #[Operand.tmp 17, Operand.tmp 25], argTypes := #[22, 22] }, type := 22, pos := "l05_wire.go:78", after := #[{ on := 2, ground := Ground.data }, { on := 10, ground := Ground.data }, { on := 2, ground := Ground.chain }], guard := none }) rfl fun K' hK => step_append_bytes _ (by rfl) _ _ (by rfl) w0.heap.size 4 v2 (num4 r) (by rfl) (own_lower o2 (bl_al hS0).size) f2 _ [l % 256, (ts.length : Int) % 256] (by rfl) ((two_new (World.drewN w0 1) l (ts.length : Int)).below b2) (by show 4 + 2 ≤ 4194304; omega) d2b.size ?_
      intro g3 c3 w3 o3 gr3
      have b3 : Below w0.heap.size w0 w3 := Below.grown d2b gr3 d2b.size (fun k hk => Nat.le_trans (bl_al hS0).size (o2.lt k hk).1)
      refine hK _ _ ⟨b3, ?_⟩
      simp only [Act.put, List.setIfInBounds_toArray, List.set_cons_zero, List.set_cons_succ]
      refine wpAnyH_take (i := 12) (oi := { dst := some 4, op := Op.assign (Operand.tmp 26), type := 22, pos := "l05_wire.go:78", after := #[{ on := 11, ground := Ground.data }, { on := 11, ground := Ground.chain }, { on := 0, ground := Ground.phase }, { on := 1, ground := Ground.phase }, { on := 2, ground := Ground.phase }, { on := 3, ground := Ground.phase }, { on := 4, ground := Ground.phase }, { on := 5, ground := Ground.phase }, { on := 6, ground := Ground.phase }, { on := 7, ground := Ground.phase }, { on := 8, ground := Ground.phase }, { on := 9, ground := Ground.phase }, { on := 10, ground := Ground.phase }, { on := 11, ground := Ground.phase }], guard := none }) (v := ?_) rfl (by kernel_rfl) (by kernel_rfl) (by kernel_rfl) (fun _ _ _ h => h) (Or.inl ⟨by rfl, ?_⟩) b3 ?_
      rotate_left
      · intro W hSw
        obtain ⟨_, c0, c1, c2⟩ := (unhide HBC).below hSw
        go_simp
        try with_reducible rfl
      simp only [Act.put, List.setIfInBounds_toArray, List.set_cons_zero, List.set_cons_succ]
      refine wpAnyH_done (by kernel_rfl) ?_ _
      have O3 := hide (show w3.ownsRow w0.heap.size 5 1 (.slice (some ⟨g3, 0, none⟩) 6 c3) 6 ((num4 r ++ [l % 256, (ts.length : Int) % 256]).map (Value.int .u8)) from o3)
      have B3 := hide b3
      clear o3 gr3 b3 d2b b2 o2 f2 hS0
      go_wp2_with fail
      refine (unhide c35b w3).mono ?_
      rintro e w4 ⟨v4, rfl, o4, f4, b4⟩
      have O4 := hide o4
      have F4 := hide f4
      have B4 := hide b4
      clear o4 f4 b4
      go_wp2_with (at_builtin; refine wpList_append_bytes _ rfl _ _ rfl w0.heap.size 6 _ _ rfl (own_below (unhide O3) (unhide B4)) ⟨_, _, rfl⟩ _ _ rfl (own_bytes (unhide O4) (unhide F4) rfl (num2_isB _)) (by show 6 + 2 ≤ 4194304; omega) (Nat.le_trans (unhide B3).size (unhide B4).size) ?_; intro g5 c5 w5 o5 gr5)
      have B5 := hide (Below.grown (bl_st (unhide B4) (unhide B3)) gr5 (Nat.le_trans (unhide B3).size (unhide B4).size) (fun k hk => ((unhide O3).lt k hk).1))
      have O5 := hide (show w5.ownsRow w0.heap.size 5 1 (.slice (some ⟨g5, 0, none⟩) 8 c5) 8 ((bH r l ts ++ flatT (ts.take 0)).map (Value.int .u8)) by
        rw [show flatT (ts.take 0) = [] by simp [flatT], List.append_nil]
        exact (by have := o5; rw [show (num2 0) = num2 (sz0 ts : Int) by rw [hz0]; rfl] at this; exact this))
      rw [show 6 + (num2 0).length = 8 from rfl]
      clear o5 gr5 O3 O4 F4 B4 B3 c35a c35b
      go_loopw [4, 5] (fun ov iv wr => ∃ (j g c : Nat), j ≤ ts.length ∧ iv = .int .i64 j ∧ ov = .slice (some ⟨g, 0, none⟩) (8 + (flatT (ts.take j)).length) c ∧ wr.ownsRow w0.heap.size 5 1 (.slice (some ⟨g, 0, none⟩) (8 + (flatT (ts.take j)).length) c) (8 + (flatT (ts.take j)).length) ((bH r l ts ++ flatT (ts.take j)).map (Value.int .u8)) ∧ Below w0.heap.size w0 wr) (fun _ iv _ => ts.length - (intOf iv).toNat)
      case atStart => exact ⟨0, g5, c5, Nat.zero_le _, rfl, by simp [flatT], by rw [show (flatT (ts.take 0)).length = 0 by simp [flatT]]; exact unhide O5, unhide B5⟩
      case round =>
        obtain ⟨j, g, c, hj, rfl, rfl, own, hb⟩ := hrel
        have e2 := (unhide HBC).below hb
        obtain ⟨_, _, _, e2⟩ := e2
        have LEN := flatT_len ts (unhide H400) j hj
        have L64 := unhide H64
        by_cases hlt : j < ts.length
        · exfalso; omega
        · obtain rfl : j = ts.length := by omega
          rw [List.take_length] at own
          have OW := hide own
          have HB := hide hb
          clear own hb hlt LEN
          rw [List.take_length]
          go_wp2
          go_ret
          obtain ⟨g', c', rest, hval, hgb, hgl, hcap, hrow⟩ := own_rowB (unhide OW) ⟨_, _, rfl⟩
          have hlen : (bB r l ts).length = 8 + (flatT ts).length := by unfold bB; rw [List.length_append, bH_len]
          refine ⟨_, rfl, ⟨bB_isB r l ts, .inr ⟨g', c', rest, ?_, Nat.le_trans (unhide HB0).size hgb, hrow, ?_⟩⟩, bl_st (unhide HB) (unhide HB0)⟩
          · rw [hlen]; exact hval
          · rw [hlen]; exact hcap
def btL (r l : Int) (ts : List ByteArray) : List Int := if okB r l ts = true then bB r l ts else []
def btC (r l : Int) (ts : List ByteArray) : Int := if okB r l ts = true then 0 else 1
theorem bb16 (r l : Int) (v : Value) (ts : List ByteArray) (w : World) (hv : strsV w v ts) (hs : ∀ t ∈ ts, t.size ≤ maxLen) (hl : ts.length ≤ 2097152) :
    Calls Tryd.prog 25 #[btV r l v] w fun e w' => ∃ u, e = .returned (.tuple #[u, .int .i64 (btC r l ts)]) ∧ ownB w.heap.size w' u (btL r l ts) ∧ Below w.heap.size w w' := by
  have B0 : Below w.heap.size w (w.alloc (.cells #[.int .i64 r, .int .i64 l, v] 33)) := bl_al (Below.refl _ _)
  have HB0 := hide B0
  have HBC := hide (bc_new w r l v 33)
  have h28 := hide (lb28 r l v ts _ (hv.below B0) hs hl)
  have HV := hide (hv.below B0)
  obtain ⟨A, cap, rfl, _⟩ := hv
  clear B0 hs hl
  obtain ⟨_, d0, d1, d2⟩ := unhide HBC
  cases ok : okB r l ts
  · have eL : btL r l ts = [] := by unfold btL; rw [if_neg (by simp [ok])]
    have eC : btC r l ts = 1 := by unfold btC; rw [if_neg (by simp [ok])]
    rw [eL, eC]
    rw [ok] at h28
    clear eL eC ok
    go_enter Tryd.func25, Tryd.ntmps25
    go_wp2_with fail
    refine (unhide h28).mono ?_
    rintro e w1 ⟨rfl, b1⟩
    have B1 := hide (bl_st b1 (unhide HB0))
    have on := hide (own_none w1)
    clear b1
    go_wp2
    go_returns
    exact ⟨_, rfl, (unhide on).lower (unhide B1).size, bl_al (unhide B1)⟩
  · have eL : btL r l ts = bB r l ts := by unfold btL; rw [if_pos ok]
    have eC : btC r l ts = 0 := by unfold btC; rw [if_pos ok]
    rw [eL, eC]
    have h29 := hide fun w1 (h : strsV w1 (.slice A ts.length cap) ts) => bb29 r l (.slice A ts.length cap) ts w1 h ok
    rw [ok] at h28
    clear eL eC ok
    generalize bB r l ts = M at *
    go_enter Tryd.func25, Tryd.ntmps25
    go_wp2_with fail
    refine (unhide h28).mono ?_
    rintro e w1 ⟨rfl, b1⟩
    have HV1 := hide ((unhide HV).below b1)
    have B1 := hide (bl_st b1 (unhide HB0))
    obtain ⟨_, e0, e1, e2⟩ := (unhide HBC).below b1
    clear b1 HV
    go_wp2_with fail
    refine (unhide h29 w1 (unhide HV1)).mono ?_
    rintro e w2 ⟨u, rfl, o2, b2⟩
    have O2 := hide (o2.lower (unhide B1).size)
    have B2 := hide (bl_st b2 (unhide B1))
    clear o2 b2
    go_wp2
    go_returns
    exact ⟨_, rfl, unhide O2, unhide B2⟩
end Go.Proofs.YtgdohkemamlnhaaDoor
