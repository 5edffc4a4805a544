/- What both have heard anew, by the specification. -/
import Derived.Test.YtbkcgkffafjbgaaGreatDoorGk
import Derived.Test.YtbkcgkffafjbgaaGreatDoorGg
import Derived.OrdersHeld
namespace Go.Proofs.YtbkcgkffafjbgaaGreatDoor
open Go.RowKit
set_option maxHeartbeats 4000000
set_option maxRecDepth 20000
set_option linter.unusedVariables false
theorem twV.open {W : World} {v : Value} {z : Tw} (h : twV W v z) : ∃ g c A0 r0 C0 r1 A1 r2 C1 r3 rest, v = .slice (some ⟨g, 0, none⟩) 2 c ∧ 2 ≤ c ∧
    row8 W g (.slice A0 z.x.q.length r0) (.int .i64 z.x.s) (.int .i64 z.x.e) (.slice C0 z.x.i.length r1) (.slice A1 z.y.q.length r2) (.int .i64 z.y.s) (.int .i64 z.y.e) (.slice C1 z.y.i.length r3) rest ∧ strsV W (.slice C0 z.x.i.length r1) z.x.i ∧ strsV W (.slice C1 z.y.i.length r3) z.y.i := by
  obtain ⟨g, c, q0, i0, q1, i1, rest, e, h1, hr, hx, _, hy, _⟩ := h
  have ⟨A0, r0, C0, r1, e0⟩ := hx.slices
  have ⟨A1, r2, C1, r3, e1⟩ := hy.slices
  obtain ⟨rfl, rfl⟩ := peA_inj e0
  obtain ⟨rfl, rfl⟩ := peA_inj e1
  obtain ⟨q, i, e2, _, h2⟩ := hx
  obtain ⟨rfl, rfl⟩ := peA_inj e2
  obtain ⟨q, i, e3, _, h3⟩ := hy
  obtain ⟨rfl, rfl⟩ := peA_inj e3
  exact ⟨g, c, _, _, _, _, _, _, _, _, rest, e, h1, hr, h2, h3⟩
def tjS (a b : By) (j : Nat) : By := if j = 0 then [] else if j = 1 then a else a ++ b
theorem told_next (who : UInt8) (ns : List ByteArray) (i : Nat) (h : i < ns.length) : toldOne who (ns.take (i + 1)) = toldOne who (ns.take i) ++ toldL who (ns.getD i noS) := by
  unfold toldOne
  rw [List.take_add_one, List.map_append, List.flatten_append]
  congr 1
  rw [List.getD_eq_getElem?_getD, List.getElem?_eq_getElem h]
  simp
theorem bs_app (a b : By) : bs (a ++ b) = bs a ++ bs b := by
  apply ByteArray.ext
  simp [bs]
theorem told24 (v v' : Value) (z z' : Tw) (w : World) (hv : twV w v z) (hv' : twV w v' z') (hx : z.x.i.length ≤ z'.x.i.length) (hy : z.y.i.length ≤ z'.y.i.length) (px : Pb z'.x) (py : Pb z'.y) :
    Calls Tryz.prog 24 #[v, v'] w fun e w' => e = .returned (.string (bs (toldF z z'))) ∧ Below w.heap.size w w' := by
  obtain ⟨g, c, A0, r0, C0, r1, A1, r2, C1, r3, rest, rfl, hc, hr, _, _⟩ := hv.open
  obtain ⟨g', c', A0', r0', C0', r1', A1', r2', C1', r3', rest', rfl, hc', hr', s0, s1⟩ := hv'.open
  have HR := hide hr
  have HR' := hide hr'
  have HS0 := hide s0
  have HS1 := hide s1
  have HX := hide hx
  have HY := hide hy
  have X0 : Hid (∀ k, (toldOne 97 ((z'.x.i.drop z.x.i.length).take k)).length ≤ 4900) := hide (fun k => by
    have := told_len 97 ((z'.x.i.drop z.x.i.length).take k) (fun t ht => px.all t (List.mem_of_mem_drop (List.mem_of_mem_take ht)))
    have := px.i
    simp only [List.length_take, List.length_drop] at *
    omega)
  have X1 : Hid (∀ k, (toldOne 98 ((z'.y.i.drop z.y.i.length).take k)).length ≤ 4900) := hide (fun k => by
    have := told_len 98 ((z'.y.i.drop z.y.i.length).take k) (fun t ht => py.all t (List.mem_of_mem_drop (List.mem_of_mem_take ht)))
    have := py.i
    simp only [List.length_take, List.length_drop] at *
    omega)
  have T0 : Hid (∀ i, (z'.x.i.getD i noS).size ≤ 40) := hide (fun i => by
    rw [List.getD_eq_getElem?_getD]
    cases e : z'.x.i[i]? with
    | none => decide
    | some t => exact px.all t (List.mem_of_getElem? e))
  have T1 : Hid (∀ i, (z'.y.i.getD i noS).size ≤ 40) := hide (fun i => by
    rw [List.getD_eq_getElem?_getD]
    cases e : z'.y.i[i]? with
    | none => decide
    | some t => exact py.all t (List.mem_of_getElem? e))
  have Y0 : Hid ((toldOne 97 (z'.x.i.drop z.x.i.length)).length ≤ 4900) := hide (by
    have := unhide X0 (z'.x.i.drop z.x.i.length).length
    rwa [List.take_length] at this)
  have m2 : (z'.x.i.length : Int) ≤ 100 := by have := px.i; omega
  have m3 : (z'.y.i.length : Int) ≤ 100 := by have := py.i; omega
  have m0 : (z.x.i.length : Int) ≤ 100 := by omega
  have m1 : (z.y.i.length : Int) ≤ 100 := by omega
  clear hv hv' hr hr' s0 s1 hx hy px py hc hc'
  go_enter Tryz.func24, Tryz.ntmps24
  go_wp2_with fail
  go_loopw [5, 6] (fun o i wr => ∃ (j : Nat), j ≤ 2 ∧ i = .int .i64 j ∧ o = .string (bs (tjS (toldOne 97 (z'.x.i.drop z.x.i.length)) (toldOne 98 (z'.y.i.drop z.y.i.length)) j)) ∧ Below w.heap.size w wr) (fun _ i _ => 2 - (intOf i).toNat)
  case atStart => exact ⟨0, by omega, rfl, rfl, Below.refl _ _⟩
  case round =>
    obtain ⟨j, hj, rfl, rfl, hb⟩ := hrel
    have HB := hide hb
    rcases (by omega : j = 0 ∨ j = 1 ∨ j = 2) with rfl | rfl | rfl
    · have k3 := ((unhide HR).below hb).c3
      clear hj hb
      rw [show ((0 : Nat) : Int) = 0 from rfl]
      go_wp2_with fail
      go_loopw [5, 7] (fun u i wq => ∃ (k : Nat), z.x.i.length + k ≤ z'.x.i.length ∧ i = .int .i64 ((z.x.i.length + k : Nat) : Int) ∧ u = .string (bs (tjS (toldOne 97 (z'.x.i.drop z.x.i.length)) (toldOne 98 (z'.y.i.drop z.y.i.length)) 0 ++ toldOne 97 ((z'.x.i.drop z.x.i.length).take k))) ∧ Below w.heap.size w wq) (fun _ i _ => z'.x.i.length - (intOf i).toNat)
      case atStart => exact ⟨0, by have := unhide HX; omega, rfl, by simp [toldOne], unhide HB⟩
      case round =>
        obtain ⟨k, hk, rfl, rfl, hb⟩ := hrel
        have R' := (unhide HR').below hb
        have k3' := R'.c3
        have HB2 := hide hb
        clear HB
        by_cases h9 : z.x.i.length + k = z'.x.i.length
        · have q1 : ((z'.x.i.length : Nat) : Int) ≤ ((z.x.i.length + k : Nat) : Int) := by omega
          have HE : Hid (k = (z'.x.i.drop z.x.i.length).length) := hide (by simp; omega)
          clear R' hb hk h9
          go_wp2
          refine ⟨⟨1, by omega, by go_num, ?_, unhide HB2⟩, by simp [intOf]⟩
          rw [unhide HE, List.take_length]
          rfl
        · have hlt : z.x.i.length + k < z'.x.i.length := by omega
          have q1 : ((z.x.i.length + k : Nat) : Int) < ((z'.x.i.length : Nat) : Int) := by omega
          obtain ⟨A, cc, e, hs⟩ := (unhide HS0).below hb
          obtain ⟨bb, off, rfl, hlb, hcell⟩ := hs (by omega)
          have e1 := (Value.slice.inj e).1
          have tc := hcell (z.x.i.length + k) hlt
          have ty := unhide T0 (z.x.i.length + k)
          have bx := unhide X0 k
          have eL : bs (tjS (toldOne 97 (z'.x.i.drop z.x.i.length)) (toldOne 98 (z'.y.i.drop z.y.i.length)) 0 ++ toldOne 97 ((z'.x.i.drop z.x.i.length).take k)) ++ ((⟨#[97]⟩ ++ ⟨#[32, 104, 101, 97, 114, 115, 32]⟩ ++ z'.x.i.getD (z.x.i.length + k) noS) ++ ⟨#[10]⟩) = bs (tjS (toldOne 97 (z'.x.i.drop z.x.i.length)) (toldOne 98 (z'.y.i.drop z.y.i.length)) 0 ++ toldOne 97 ((z'.x.i.drop z.x.i.length).take (k + 1))) := by
            rw [told_next 97 (z'.x.i.drop z.x.i.length) k (by simp; omega), ← List.append_assoc, bs_app _ (toldL _ _)]
            congr 1
            have : (z'.x.i.drop z.x.i.length).getD k noS = z'.x.i.getD (z.x.i.length + k) noS := by simp [List.getD_eq_getElem?_getD]
            rw [this]
            apply ByteArray.ext
            simp [bs, toldL, hearsB]
          have z1 : (bs (tjS (toldOne 97 (z'.x.i.drop z.x.i.length)) (toldOne 98 (z'.y.i.drop z.y.i.length)) 0 ++ toldOne 97 ((z'.x.i.drop z.x.i.length).take k))).size ≤ 20000 := by
            have e : (tjS (toldOne 97 (z'.x.i.drop z.x.i.length)) (toldOne 98 (z'.y.i.drop z.y.i.length)) 0).length ≤ 4900 := by show List.length ([] : By) ≤ 4900; decide
            rw [bs_size, List.length_append]; omega
          have HEL := hide eL
          subst e1
          have q2 : (0 : Int) ≤ ((z.x.i.length + k : Nat) : Int) := by omega
          have HJ := hide hlt
          have HRR := hide R'
          clear R' hb hk h9 hlt e eL bx
          generalize hnn : z.x.i.length + k = nn at *
          have HNN := hide hnn
          generalize z'.x.i.getD nn noS = tx at *
          generalize bs (tjS (toldOne 97 (z'.x.i.drop z.x.i.length)) (toldOne 98 (z'.y.i.drop z.y.i.length)) 0 ++ toldOne 97 ((z'.x.i.drop z.x.i.length).take k)) = s1 at *
          generalize hn2 : z'.x.i.length = n2 at *
          go_wp2_with fail
          refine wp_region_held (S := fun W => W.cell? ⟨g', 3, none⟩ = some (.slice (some ⟨bb, off, none⟩) n2 r1') ∧ W.cell? ⟨bb, off + nn, none⟩ = some (.string tx)) (by kernel_rfl) ?_
          have hS0 : Below wr.heap.size wr { wr with drawn := wr.drawn + 1 } := below_drewN (Below.refl _ _) 1
          obtain ⟨w2, hw2⟩ : ∃ x, x = ({ wr with drawn := wr.drawn + 1 } : World) := ⟨_, rfl⟩
          rw [← hw2] at hS0 ⊢
          clear hw2
          have S2 : w2.cell? ⟨g', 3, none⟩ = some (.slice (some ⟨bb, off, none⟩) n2 r1') ∧ w2.cell? ⟨bb, off + nn, none⟩ = some (.string tx) := ⟨(World.cell?_of_block (hS0.block _ (World.block_lt_of_cell? _ _ k3'))).trans k3', (World.cell?_of_block (hS0.block _ hlb)).trans tc⟩
          have bA : Below w2.heap.size w2 (w2.alloc (.cells #[.string ⟨#[97]⟩, .string ⟨#[98]⟩] 9)) := bl_al (Below.refl _ _)
          have S3 : (w2.alloc (.cells #[.string ⟨#[97]⟩, .string ⟨#[98]⟩] 9)).cell? ⟨g', 3, none⟩ = some (.slice (some ⟨bb, off, none⟩) n2 r1') ∧ (w2.alloc (.cells #[.string ⟨#[97]⟩, .string ⟨#[98]⟩] 9)).cell? ⟨bb, off + nn, none⟩ = some (.string tx) := ⟨(World.cell?_of_block (bA.block _ (World.block_lt_of_cell? _ _ S2.1))).trans S2.1, (World.cell?_of_block (bA.block _ (World.block_lt_of_cell? _ _ S2.2))).trans S2.2⟩
          have nmc := row_cell (i := 0) (heap_alloc_new w2 (.cells #[.string ⟨#[97]⟩, .string ⟨#[98]⟩] 9))
          simp only [List.getElem?_toArray, List.getElem?_cons_zero] at nmc
          have HB3 := hide ((unhide HB2).trans ((hS0.trans (bA.mono hS0.size)).mono (unhide HB2).size))
          refine wpAnyH_take (i := 0) (oi := { dst := some 28, op := Op.move (Operand.tmp 5), type := 9, pos := "l16_console.go:76", after := #[], guard := none }) (v := ?_) rfl (by kernel_rfl) (by kernel_rfl) (by kernel_rfl) (fun _ _ _ h => h) (Or.inl ⟨by rfl, ?_⟩) S2 ?_
          rotate_left
          · intro W hSw
            obtain ⟨y0, y1⟩ := hSw
            go_simp
            try with_reducible rfl
          simp only [Act.put, List.setIfInBounds_toArray, List.set_cons_zero, List.set_cons_succ]
          refine wpAnyH_take (i := 2) (oi := { dst := some 30, op := Op.move (Operand.tmp 6), type := 3, pos := "l16_console.go:76", after := #[], guard := none }) (v := ?_) rfl (by kernel_rfl) (by kernel_rfl) (by kernel_rfl) (fun _ _ _ h => h) (Or.inl ⟨by rfl, ?_⟩) S2 ?_
          rotate_left
          · intro W hSw
            obtain ⟨y0, y1⟩ := hSw
            go_simp
            try with_reducible rfl
          simp only [Act.put, List.setIfInBounds_toArray, List.set_cons_zero, List.set_cons_succ]
          refine wpAnyH_take (i := 6) (oi := { dst := some 34, op := Op.move (Operand.tmp 1), type := 41, pos := "l16_console.go:76", after := #[], guard := none }) (v := ?_) rfl (by kernel_rfl) (by kernel_rfl) (by kernel_rfl) (fun _ _ _ h => h) (Or.inl ⟨by rfl, ?_⟩) S2 ?_
          rotate_left
          · intro W hSw
            obtain ⟨y0, y1⟩ := hSw
            go_simp
            try with_reducible rfl
          simp only [Act.put, List.setIfInBounds_toArray, List.set_cons_zero, List.set_cons_succ]
          refine wpAnyH_take (i := 7) (oi := { dst := some 35, op := Op.move (Operand.tmp 6), type := 3, pos := "l16_console.go:76", after := #[], guard := none }) (v := ?_) rfl (by kernel_rfl) (by kernel_rfl) (by kernel_rfl) (fun _ _ _ h => h) (Or.inl ⟨by rfl, ?_⟩) S2 ?_
          rotate_left
          · intro W hSw
            obtain ⟨y0, y1⟩ := hSw
            go_simp
            try with_reducible rfl
          simp only [Act.put, List.setIfInBounds_toArray, List.set_cons_zero, List.set_cons_succ]
          refine wpAnyH_take (i := 8) (oi := { dst := some 36, op := Op.indexAddr 41 (Operand.tmp 34) (Operand.tmp 35), type := 0, pos := "l16_console.go:76", after := #[{ on := 6, ground := Ground.data }, { on := 7, ground := Ground.data }], guard := none }) (v := ?_) rfl (by kernel_rfl) (by kernel_rfl) (by kernel_rfl) (fun _ _ _ h => h) (Or.inl ⟨by rfl, ?_⟩) S2 ?_
          rotate_left
          · intro W hSw
            obtain ⟨y0, y1⟩ := hSw
            go_simp
            try with_reducible rfl
          simp only [Act.put, List.setIfInBounds_toArray, List.set_cons_zero, List.set_cons_succ]
          refine wpAnyH_take (i := 9) (oi := { dst := some 37, op := Op.fieldAddr 53 (Operand.tmp 36) 3, type := 0, pos := "l16_console.go:76", after := #[{ on := 8, ground := Ground.data }], guard := none }) (v := ?_) rfl (by kernel_rfl) (by kernel_rfl) (by kernel_rfl) (fun _ _ _ h => h) (Or.inl ⟨by rfl, ?_⟩) S2 ?_
          rotate_left
          · intro W hSw
            obtain ⟨y0, y1⟩ := hSw
            go_simp
            try with_reducible rfl
          simp only [Act.put, List.setIfInBounds_toArray, List.set_cons_zero, List.set_cons_succ]
          refine wpAnyH_take (i := 10) (oi := { dst := some 38, op := Op.load 23 (Operand.tmp 37), type := 23, pos := "l16_console.go:76", after := #[{ on := 9, ground := Ground.data }], guard := none }) (v := ?_) rfl (by kernel_rfl) (by kernel_rfl) (by kernel_rfl) (fun _ _ _ h => h) (Or.inl ⟨by rfl, ?_⟩) S2 ?_
          rotate_left
          · intro W hSw
            obtain ⟨y0, y1⟩ := hSw
            go_simp
            try with_reducible rfl
          simp only [Act.put, List.setIfInBounds_toArray, List.set_cons_zero, List.set_cons_succ]
          refine wpAnyH_take (i := 11) (oi := { dst := some 39, op := Op.move (Operand.tmp 7), type := 3, pos := "l16_console.go:76", after := #[], guard := none }) (v := ?_) rfl (by kernel_rfl) (by kernel_rfl) (by kernel_rfl) (fun _ _ _ h => h) (Or.inl ⟨by rfl, ?_⟩) S2 ?_
          rotate_left
          · intro W hSw
            obtain ⟨y0, y1⟩ := hSw
            go_simp
            try with_reducible rfl
          simp only [Act.put, List.setIfInBounds_toArray, List.set_cons_zero, List.set_cons_succ]
          refine wpAnyH_take (i := 12) (oi := { dst := some 40, op := Op.indexAddr 23 (Operand.tmp 38) (Operand.tmp 39), type := 0, pos := "l16_console.go:76", after := #[{ on := 10, ground := Ground.data }, { on := 11, ground := Ground.data }], guard := none }) (v := ?_) rfl (by kernel_rfl) (by kernel_rfl) (by kernel_rfl) (fun _ _ _ h => h) (Or.inl ⟨by rfl, ?_⟩) S2 ?_
          rotate_left
          · intro W hSw
            obtain ⟨y0, y1⟩ := hSw
            go_simp
            try with_reducible rfl
          simp only [Act.put, List.setIfInBounds_toArray, List.set_cons_zero, List.set_cons_succ]
          refine wpAnyH_take (i := 13) (oi := { dst := some 41, op := Op.load 9 (Operand.tmp 40), type := 9, pos := "l16_console.go:76", after := #[{ on := 12, ground := Ground.data }], guard := none }) (v := ?_) rfl (by kernel_rfl) (by kernel_rfl) (by kernel_rfl) (fun _ _ _ h => h) (Or.inl ⟨by rfl, ?_⟩) S2 ?_
          rotate_left
          · intro W hSw
            obtain ⟨y0, y1⟩ := hSw
            go_simp
            try with_reducible rfl
          simp only [Act.put, List.setIfInBounds_toArray, List.set_cons_zero, List.set_cons_succ]
          refine wpAnyH_one (i := 1) (by kernel_rfl) ?_
          refine wpOp_step (o := { dst := some 29, op := Op.buildSlice 23 2 #[(0, Operand.const (Value.string { data := #[97] })), (1, Operand.const (Value.string { data := #[98] }))], type := 23, pos := "l16_console.go:76", after := #[], guard := none }) rfl fun K' hK => step_valueW (by rfl) (.slice (some ⟨w2.heap.size, 0, none⟩) 2 2) (w2.alloc (.cells #[.string ⟨#[97]⟩, .string ⟨#[98]⟩] 9)) (by go_simp) ?_
          refine hK _ _ ⟨S3, ?_⟩
          simp only [Act.put, List.setIfInBounds_toArray, List.set_cons_zero, List.set_cons_succ]
          refine wpAnyH_take (i := 3) (oi := { dst := some 31, op := Op.indexAddr 23 (Operand.tmp 29) (Operand.tmp 30), type := 0, pos := "l16_console.go:76", after := #[{ on := 1, ground := Ground.data }, { on := 2, ground := Ground.data }], guard := none }) (v := ?_) rfl (by kernel_rfl) (by kernel_rfl) (by kernel_rfl) (fun _ _ _ h => h) (Or.inl ⟨by rfl, ?_⟩) S3 ?_
          rotate_left
          · intro W hSw
            go_simp
            try with_reducible rfl
          simp only [Act.put, List.setIfInBounds_toArray, List.set_cons_zero, List.set_cons_succ]
          refine wpAnyH_one (i := 4) (by kernel_rfl) ?_
          refine wpOp_step (o := { dst := some 32, op := Op.load 9 (Operand.tmp 31), type := 9, pos := "l16_console.go:76", after := #[{ on := 3, ground := Ground.data }], guard := none }) rfl fun K' hK => step_valueW (by rfl) (.string ⟨#[97]⟩) (w2.alloc (.cells #[.string ⟨#[97]⟩, .string ⟨#[98]⟩] 9)) (by go_simp) ?_
          refine hK _ _ ⟨S3, ?_⟩
          simp only [Act.put, List.setIfInBounds_toArray, List.set_cons_zero, List.set_cons_succ]
          refine wpAnyH_take (i := 5) (oi := { dst := some 33, op := Op.binOp BinOp.add 9 (Operand.tmp 32) (Operand.const (Value.string { data := #[32, 104, 101, 97, 114, 115, 32] })) 9, type := 9, pos := "l16_console.go:76", after := #[{ on := 4, ground := Ground.data }], guard := none }) (v := ?_) rfl (by kernel_rfl) (by kernel_rfl) (by kernel_rfl) (fun _ _ _ h => h) (Or.inl ⟨by rfl, ?_⟩) S3 ?_
          rotate_left
          · intro W hSw
            go_simp
            first | with_reducible rfl | rw [if_neg (by omega)]
          simp only [Act.put, List.setIfInBounds_toArray, List.set_cons_zero, List.set_cons_succ]
          refine wpAnyH_take (i := 14) (oi := { dst := some 42, op := Op.binOp BinOp.add 9 (Operand.tmp 33) (Operand.tmp 41) 9, type := 9, pos := "l16_console.go:76", after := #[{ on := 5, ground := Ground.data }, { on := 13, ground := Ground.data }], guard := none }) (v := ?_) rfl (by kernel_rfl) (by kernel_rfl) (by kernel_rfl) (fun _ _ _ h => h) (Or.inl ⟨by rfl, ?_⟩) S3 ?_
          rotate_left
          · intro W hSw
            go_simp
            first | with_reducible rfl | rw [if_neg (by omega)]
          simp only [Act.put, List.setIfInBounds_toArray, List.set_cons_zero, List.set_cons_succ]
          refine wpAnyH_take (i := 15) (oi := { dst := some 43, op := Op.binOp BinOp.add 9 (Operand.tmp 42) (Operand.const (Value.string { data := #[10] })) 9, type := 9, pos := "l16_console.go:76", after := #[{ on := 14, ground := Ground.data }], guard := none }) (v := ?_) rfl (by kernel_rfl) (by kernel_rfl) (by kernel_rfl) (fun _ _ _ h => h) (Or.inl ⟨by rfl, ?_⟩) S3 ?_
          rotate_left
          · intro W hSw
            go_simp
            first | with_reducible rfl | rw [if_neg (by omega)]
          simp only [Act.put, List.setIfInBounds_toArray, List.set_cons_zero, List.set_cons_succ]
          refine wpAnyH_take (i := 16) (oi := { dst := some 44, op := Op.binOp BinOp.add 9 (Operand.tmp 28) (Operand.tmp 43) 9, type := 9, pos := "l16_console.go:76", after := #[{ on := 0, ground := Ground.data }, { on := 15, ground := Ground.data }], guard := none }) (v := ?_) rfl (by kernel_rfl) (by kernel_rfl) (by kernel_rfl) (fun _ _ _ h => h) (Or.inl ⟨by rfl, ?_⟩) S3 ?_
          rotate_left
          · intro W hSw
            go_simp
            first | with_reducible rfl | rw [if_neg (by omega)]
          simp only [Act.put, List.setIfInBounds_toArray, List.set_cons_zero, List.set_cons_succ]
          refine wpAnyH_take (i := 17) (oi := { dst := some 5, op := Op.assign (Operand.tmp 44), type := 9, pos := "l16_console.go:76", after := #[{ on := 16, ground := Ground.data }, { on := 0, ground := Ground.phase }, { on := 1, ground := Ground.phase }, { on := 2, ground := Ground.phase }, { on := 3, ground := Ground.phase }, { on := 4, ground := Ground.phase }, { on := 5, ground := Ground.phase }, { on := 6, ground := Ground.phase }, { on := 7, ground := Ground.phase }, { on := 8, ground := Ground.phase }, { on := 9, ground := Ground.phase }, { on := 10, ground := Ground.phase }, { on := 11, ground := Ground.phase }, { on := 12, ground := Ground.phase }, { on := 13, ground := Ground.phase }, { on := 14, ground := Ground.phase }, { on := 15, ground := Ground.phase }, { on := 16, ground := Ground.phase }], guard := none }) (v := ?_) rfl (by kernel_rfl) (by kernel_rfl) (by kernel_rfl) (fun _ _ _ h => h) (Or.inl ⟨by rfl, ?_⟩) S3 ?_
          rotate_left
          · intro W hSw
            go_simp
            try with_reducible rfl
          simp only [Act.put, List.setIfInBounds_toArray, List.set_cons_zero, List.set_cons_succ]
          refine wpAnyH_done (by kernel_rfl) ?_ _
          rw [unhide HEL]
          have HN2 := hide hn2
          clear S2 S3 nmc bA hS0 tc k3' ty z1 hn2
          go_wp2
          go_round
          case rel => exact ⟨k + 1, by have := unhide HNN; have := unhide HJ; have := unhide HN2; omega, by rw [show ((z.x.i.length + (k + 1) : Nat) : Int) = (nn : Int) + 1 by have := unhide HNN; omega]; try go_num, rfl, unhide HB3⟩
          case measure => have := unhide HNN; have := unhide HJ; have := unhide HN2; simp [intOf]; omega
    · have k7 := ((unhide HR).below hb).c7
      clear hj hb
      rw [show ((1 : Nat) : Int) = 1 from rfl]
      go_wp2_with fail
      go_loopw [5, 7] (fun u i wq => ∃ (k : Nat), z.y.i.length + k ≤ z'.y.i.length ∧ i = .int .i64 ((z.y.i.length + k : Nat) : Int) ∧ u = .string (bs (tjS (toldOne 97 (z'.x.i.drop z.x.i.length)) (toldOne 98 (z'.y.i.drop z.y.i.length)) 1 ++ toldOne 98 ((z'.y.i.drop z.y.i.length).take k))) ∧ Below w.heap.size w wq) (fun _ i _ => z'.y.i.length - (intOf i).toNat)
      case atStart => exact ⟨0, by have := unhide HY; omega, rfl, by simp [toldOne], unhide HB⟩
      case round =>
        obtain ⟨k, hk, rfl, rfl, hb⟩ := hrel
        have R' := (unhide HR').below hb
        have k7' := R'.c7
        have HB2 := hide hb
        clear HB
        by_cases h9 : z.y.i.length + k = z'.y.i.length
        · have q1 : ((z'.y.i.length : Nat) : Int) ≤ ((z.y.i.length + k : Nat) : Int) := by omega
          have HE : Hid (k = (z'.y.i.drop z.y.i.length).length) := hide (by simp; omega)
          clear R' hb hk h9
          go_wp2
          refine ⟨⟨2, by omega, by go_num, ?_, unhide HB2⟩, by simp [intOf]⟩
          rw [unhide HE, List.take_length]
          simp [tjS]
        · have hlt : z.y.i.length + k < z'.y.i.length := by omega
          have q1 : ((z.y.i.length + k : Nat) : Int) < ((z'.y.i.length : Nat) : Int) := by omega
          obtain ⟨A, cc, e, hs⟩ := (unhide HS1).below hb
          obtain ⟨bb, off, rfl, hlb, hcell⟩ := hs (by omega)
          have e1 := (Value.slice.inj e).1
          have tc := hcell (z.y.i.length + k) hlt
          have ty := unhide T1 (z.y.i.length + k)
          have bx := unhide X1 k
          have eL : bs (tjS (toldOne 97 (z'.x.i.drop z.x.i.length)) (toldOne 98 (z'.y.i.drop z.y.i.length)) 1 ++ toldOne 98 ((z'.y.i.drop z.y.i.length).take k)) ++ ((⟨#[98]⟩ ++ ⟨#[32, 104, 101, 97, 114, 115, 32]⟩ ++ z'.y.i.getD (z.y.i.length + k) noS) ++ ⟨#[10]⟩) = bs (tjS (toldOne 97 (z'.x.i.drop z.x.i.length)) (toldOne 98 (z'.y.i.drop z.y.i.length)) 1 ++ toldOne 98 ((z'.y.i.drop z.y.i.length).take (k + 1))) := by
            rw [told_next 98 (z'.y.i.drop z.y.i.length) k (by simp; omega), ← List.append_assoc, bs_app _ (toldL _ _)]
            congr 1
            have : (z'.y.i.drop z.y.i.length).getD k noS = z'.y.i.getD (z.y.i.length + k) noS := by simp [List.getD_eq_getElem?_getD]
            rw [this]
            apply ByteArray.ext
            simp [bs, toldL, hearsB]
          have z1 : (bs (tjS (toldOne 97 (z'.x.i.drop z.x.i.length)) (toldOne 98 (z'.y.i.drop z.y.i.length)) 1 ++ toldOne 98 ((z'.y.i.drop z.y.i.length).take k))).size ≤ 20000 := by
            have e : (tjS (toldOne 97 (z'.x.i.drop z.x.i.length)) (toldOne 98 (z'.y.i.drop z.y.i.length)) 1).length ≤ 4900 := by exact unhide Y0
            rw [bs_size, List.length_append]; omega
          have HEL := hide eL
          subst e1
          have q2 : (0 : Int) ≤ ((z.y.i.length + k : Nat) : Int) := by omega
          have HJ := hide hlt
          have HRR := hide R'
          clear R' hb hk h9 hlt e eL bx
          generalize hnn : z.y.i.length + k = nn at *
          have HNN := hide hnn
          generalize z'.y.i.getD nn noS = tx at *
          generalize bs (tjS (toldOne 97 (z'.x.i.drop z.x.i.length)) (toldOne 98 (z'.y.i.drop z.y.i.length)) 1 ++ toldOne 98 ((z'.y.i.drop z.y.i.length).take k)) = s1 at *
          generalize hn2 : z'.y.i.length = n2 at *
          go_wp2_with fail
          refine wp_region_held (S := fun W => W.cell? ⟨g', 7, none⟩ = some (.slice (some ⟨bb, off, none⟩) n2 r3') ∧ W.cell? ⟨bb, off + nn, none⟩ = some (.string tx)) (by kernel_rfl) ?_
          have hS0 : Below wr.heap.size wr { wr with drawn := wr.drawn + 1 } := below_drewN (Below.refl _ _) 1
          obtain ⟨w2, hw2⟩ : ∃ x, x = ({ wr with drawn := wr.drawn + 1 } : World) := ⟨_, rfl⟩
          rw [← hw2] at hS0 ⊢
          clear hw2
          have S2 : w2.cell? ⟨g', 7, none⟩ = some (.slice (some ⟨bb, off, none⟩) n2 r3') ∧ w2.cell? ⟨bb, off + nn, none⟩ = some (.string tx) := ⟨(World.cell?_of_block (hS0.block _ (World.block_lt_of_cell? _ _ k7'))).trans k7', (World.cell?_of_block (hS0.block _ hlb)).trans tc⟩
          have bA : Below w2.heap.size w2 (w2.alloc (.cells #[.string ⟨#[97]⟩, .string ⟨#[98]⟩] 9)) := bl_al (Below.refl _ _)
          have S3 : (w2.alloc (.cells #[.string ⟨#[97]⟩, .string ⟨#[98]⟩] 9)).cell? ⟨g', 7, none⟩ = some (.slice (some ⟨bb, off, none⟩) n2 r3') ∧ (w2.alloc (.cells #[.string ⟨#[97]⟩, .string ⟨#[98]⟩] 9)).cell? ⟨bb, off + nn, none⟩ = some (.string tx) := ⟨(World.cell?_of_block (bA.block _ (World.block_lt_of_cell? _ _ S2.1))).trans S2.1, (World.cell?_of_block (bA.block _ (World.block_lt_of_cell? _ _ S2.2))).trans S2.2⟩
          have nmc := row_cell (i := 1) (heap_alloc_new w2 (.cells #[.string ⟨#[97]⟩, .string ⟨#[98]⟩] 9))
          simp only [List.getElem?_toArray, List.getElem?_cons_succ, List.getElem?_cons_zero] at nmc
          have HB3 := hide ((unhide HB2).trans ((hS0.trans (bA.mono hS0.size)).mono (unhide HB2).size))
          refine wpAnyH_take (i := 0) (oi := { dst := some 28, op := Op.move (Operand.tmp 5), type := 9, pos := "l16_console.go:76", after := #[], guard := none }) (v := ?_) rfl (by kernel_rfl) (by kernel_rfl) (by kernel_rfl) (fun _ _ _ h => h) (Or.inl ⟨by rfl, ?_⟩) S2 ?_
          rotate_left
          · intro W hSw
            obtain ⟨y0, y1⟩ := hSw
            go_simp
            try with_reducible rfl
          simp only [Act.put, List.setIfInBounds_toArray, List.set_cons_zero, List.set_cons_succ]
          refine wpAnyH_take (i := 2) (oi := { dst := some 30, op := Op.move (Operand.tmp 6), type := 3, pos := "l16_console.go:76", after := #[], guard := none }) (v := ?_) rfl (by kernel_rfl) (by kernel_rfl) (by kernel_rfl) (fun _ _ _ h => h) (Or.inl ⟨by rfl, ?_⟩) S2 ?_
          rotate_left
          · intro W hSw
            obtain ⟨y0, y1⟩ := hSw
            go_simp
            try with_reducible rfl
          simp only [Act.put, List.setIfInBounds_toArray, List.set_cons_zero, List.set_cons_succ]
          refine wpAnyH_take (i := 6) (oi := { dst := some 34, op := Op.move (Operand.tmp 1), type := 41, pos := "l16_console.go:76", after := #[], guard := none }) (v := ?_) rfl (by kernel_rfl) (by kernel_rfl) (by kernel_rfl) (fun _ _ _ h => h) (Or.inl ⟨by rfl, ?_⟩) S2 ?_
          rotate_left
          · intro W hSw
            obtain ⟨y0, y1⟩ := hSw
            go_simp
            try with_reducible rfl
          simp only [Act.put, List.setIfInBounds_toArray, List.set_cons_zero, List.set_cons_succ]
          refine wpAnyH_take (i := 7) (oi := { dst := some 35, op := Op.move (Operand.tmp 6), type := 3, pos := "l16_console.go:76", after := #[], guard := none }) (v := ?_) rfl (by kernel_rfl) (by kernel_rfl) (by kernel_rfl) (fun _ _ _ h => h) (Or.inl ⟨by rfl, ?_⟩) S2 ?_
          rotate_left
          · intro W hSw
            obtain ⟨y0, y1⟩ := hSw
            go_simp
            try with_reducible rfl
          simp only [Act.put, List.setIfInBounds_toArray, List.set_cons_zero, List.set_cons_succ]
          refine wpAnyH_take (i := 8) (oi := { dst := some 36, op := Op.indexAddr 41 (Operand.tmp 34) (Operand.tmp 35), type := 0, pos := "l16_console.go:76", after := #[{ on := 6, ground := Ground.data }, { on := 7, ground := Ground.data }], guard := none }) (v := ?_) rfl (by kernel_rfl) (by kernel_rfl) (by kernel_rfl) (fun _ _ _ h => h) (Or.inl ⟨by rfl, ?_⟩) S2 ?_
          rotate_left
          · intro W hSw
            obtain ⟨y0, y1⟩ := hSw
            go_simp
            try with_reducible rfl
          simp only [Act.put, List.setIfInBounds_toArray, List.set_cons_zero, List.set_cons_succ]
          refine wpAnyH_take (i := 9) (oi := { dst := some 37, op := Op.fieldAddr 53 (Operand.tmp 36) 3, type := 0, pos := "l16_console.go:76", after := #[{ on := 8, ground := Ground.data }], guard := none }) (v := ?_) rfl (by kernel_rfl) (by kernel_rfl) (by kernel_rfl) (fun _ _ _ h => h) (Or.inl ⟨by rfl, ?_⟩) S2 ?_
          rotate_left
          · intro W hSw
            obtain ⟨y0, y1⟩ := hSw
            go_simp
            try with_reducible rfl
          simp only [Act.put, List.setIfInBounds_toArray, List.set_cons_zero, List.set_cons_succ]
          refine wpAnyH_take (i := 10) (oi := { dst := some 38, op := Op.load 23 (Operand.tmp 37), type := 23, pos := "l16_console.go:76", after := #[{ on := 9, ground := Ground.data }], guard := none }) (v := ?_) rfl (by kernel_rfl) (by kernel_rfl) (by kernel_rfl) (fun _ _ _ h => h) (Or.inl ⟨by rfl, ?_⟩) S2 ?_
          rotate_left
          · intro W hSw
            obtain ⟨y0, y1⟩ := hSw
            go_simp
            try with_reducible rfl
          simp only [Act.put, List.setIfInBounds_toArray, List.set_cons_zero, List.set_cons_succ]
          refine wpAnyH_take (i := 11) (oi := { dst := some 39, op := Op.move (Operand.tmp 7), type := 3, pos := "l16_console.go:76", after := #[], guard := none }) (v := ?_) rfl (by kernel_rfl) (by kernel_rfl) (by kernel_rfl) (fun _ _ _ h => h) (Or.inl ⟨by rfl, ?_⟩) S2 ?_
          rotate_left
          · intro W hSw
            obtain ⟨y0, y1⟩ := hSw
            go_simp
            try with_reducible rfl
          simp only [Act.put, List.setIfInBounds_toArray, List.set_cons_zero, List.set_cons_succ]
          refine wpAnyH_take (i := 12) (oi := { dst := some 40, op := Op.indexAddr 23 (Operand.tmp 38) (Operand.tmp 39), type := 0, pos := "l16_console.go:76", after := #[{ on := 10, ground := Ground.data }, { on := 11, ground := Ground.data }], guard := none }) (v := ?_) rfl (by kernel_rfl) (by kernel_rfl) (by kernel_rfl) (fun _ _ _ h => h) (Or.inl ⟨by rfl, ?_⟩) S2 ?_
          rotate_left
          · intro W hSw
            obtain ⟨y0, y1⟩ := hSw
            go_simp
            try with_reducible rfl
          simp only [Act.put, List.setIfInBounds_toArray, List.set_cons_zero, List.set_cons_succ]
          refine wpAnyH_take (i := 13) (oi := { dst := some 41, op := Op.load 9 (Operand.tmp 40), type := 9, pos := "l16_console.go:76", after := #[{ on := 12, ground := Ground.data }], guard := none }) (v := ?_) rfl (by kernel_rfl) (by kernel_rfl) (by kernel_rfl) (fun _ _ _ h => h) (Or.inl ⟨by rfl, ?_⟩) S2 ?_
          rotate_left
          · intro W hSw
            obtain ⟨y0, y1⟩ := hSw
            go_simp
            try with_reducible rfl
          simp only [Act.put, List.setIfInBounds_toArray, List.set_cons_zero, List.set_cons_succ]
          refine wpAnyH_one (i := 1) (by kernel_rfl) ?_
          refine wpOp_step (o := { dst := some 29, op := Op.buildSlice 23 2 #[(0, Operand.const (Value.string { data := #[97] })), (1, Operand.const (Value.string { data := #[98] }))], type := 23, pos := "l16_console.go:76", after := #[], guard := none }) rfl fun K' hK => step_valueW (by rfl) (.slice (some ⟨w2.heap.size, 0, none⟩) 2 2) (w2.alloc (.cells #[.string ⟨#[97]⟩, .string ⟨#[98]⟩] 9)) (by go_simp) ?_
          refine hK _ _ ⟨S3, ?_⟩
          simp only [Act.put, List.setIfInBounds_toArray, List.set_cons_zero, List.set_cons_succ]
          refine wpAnyH_take (i := 3) (oi := { dst := some 31, op := Op.indexAddr 23 (Operand.tmp 29) (Operand.tmp 30), type := 0, pos := "l16_console.go:76", after := #[{ on := 1, ground := Ground.data }, { on := 2, ground := Ground.data }], guard := none }) (v := ?_) rfl (by kernel_rfl) (by kernel_rfl) (by kernel_rfl) (fun _ _ _ h => h) (Or.inl ⟨by rfl, ?_⟩) S3 ?_
          rotate_left
          · intro W hSw
            go_simp
            try with_reducible rfl
          simp only [Act.put, List.setIfInBounds_toArray, List.set_cons_zero, List.set_cons_succ]
          refine wpAnyH_one (i := 4) (by kernel_rfl) ?_
          refine wpOp_step (o := { dst := some 32, op := Op.load 9 (Operand.tmp 31), type := 9, pos := "l16_console.go:76", after := #[{ on := 3, ground := Ground.data }], guard := none }) rfl fun K' hK => step_valueW (by rfl) (.string ⟨#[98]⟩) (w2.alloc (.cells #[.string ⟨#[97]⟩, .string ⟨#[98]⟩] 9)) (by go_simp) ?_
          refine hK _ _ ⟨S3, ?_⟩
          simp only [Act.put, List.setIfInBounds_toArray, List.set_cons_zero, List.set_cons_succ]
          refine wpAnyH_take (i := 5) (oi := { dst := some 33, op := Op.binOp BinOp.add 9 (Operand.tmp 32) (Operand.const (Value.string { data := #[32, 104, 101, 97, 114, 115, 32] })) 9, type := 9, pos := "l16_console.go:76", after := #[{ on := 4, ground := Ground.data }], guard := none }) (v := ?_) rfl (by kernel_rfl) (by kernel_rfl) (by kernel_rfl) (fun _ _ _ h => h) (Or.inl ⟨by rfl, ?_⟩) S3 ?_
          rotate_left
          · intro W hSw
            go_simp
            first | with_reducible rfl | rw [if_neg (by omega)]
          simp only [Act.put, List.setIfInBounds_toArray, List.set_cons_zero, List.set_cons_succ]
          refine wpAnyH_take (i := 14) (oi := { dst := some 42, op := Op.binOp BinOp.add 9 (Operand.tmp 33) (Operand.tmp 41) 9, type := 9, pos := "l16_console.go:76", after := #[{ on := 5, ground := Ground.data }, { on := 13, ground := Ground.data }], guard := none }) (v := ?_) rfl (by kernel_rfl) (by kernel_rfl) (by kernel_rfl) (fun _ _ _ h => h) (Or.inl ⟨by rfl, ?_⟩) S3 ?_
          rotate_left
          · intro W hSw
            go_simp
            first | with_reducible rfl | rw [if_neg (by omega)]
          simp only [Act.put, List.setIfInBounds_toArray, List.set_cons_zero, List.set_cons_succ]
          refine wpAnyH_take (i := 15) (oi := { dst := some 43, op := Op.binOp BinOp.add 9 (Operand.tmp 42) (Operand.const (Value.string { data := #[10] })) 9, type := 9, pos := "l16_console.go:76", after := #[{ on := 14, ground := Ground.data }], guard := none }) (v := ?_) rfl (by kernel_rfl) (by kernel_rfl) (by kernel_rfl) (fun _ _ _ h => h) (Or.inl ⟨by rfl, ?_⟩) S3 ?_
          rotate_left
          · intro W hSw
            go_simp
            first | with_reducible rfl | rw [if_neg (by omega)]
          simp only [Act.put, List.setIfInBounds_toArray, List.set_cons_zero, List.set_cons_succ]
          refine wpAnyH_take (i := 16) (oi := { dst := some 44, op := Op.binOp BinOp.add 9 (Operand.tmp 28) (Operand.tmp 43) 9, type := 9, pos := "l16_console.go:76", after := #[{ on := 0, ground := Ground.data }, { on := 15, ground := Ground.data }], guard := none }) (v := ?_) rfl (by kernel_rfl) (by kernel_rfl) (by kernel_rfl) (fun _ _ _ h => h) (Or.inl ⟨by rfl, ?_⟩) S3 ?_
          rotate_left
          · intro W hSw
            go_simp
            first | with_reducible rfl | rw [if_neg (by omega)]
          simp only [Act.put, List.setIfInBounds_toArray, List.set_cons_zero, List.set_cons_succ]
          refine wpAnyH_take (i := 17) (oi := { dst := some 5, op := Op.assign (Operand.tmp 44), type := 9, pos := "l16_console.go:76", after := #[{ on := 16, ground := Ground.data }, { on := 0, ground := Ground.phase }, { on := 1, ground := Ground.phase }, { on := 2, ground := Ground.phase }, { on := 3, ground := Ground.phase }, { on := 4, ground := Ground.phase }, { on := 5, ground := Ground.phase }, { on := 6, ground := Ground.phase }, { on := 7, ground := Ground.phase }, { on := 8, ground := Ground.phase }, { on := 9, ground := Ground.phase }, { on := 10, ground := Ground.phase }, { on := 11, ground := Ground.phase }, { on := 12, ground := Ground.phase }, { on := 13, ground := Ground.phase }, { on := 14, ground := Ground.phase }, { on := 15, ground := Ground.phase }, { on := 16, ground := Ground.phase }], guard := none }) (v := ?_) rfl (by kernel_rfl) (by kernel_rfl) (by kernel_rfl) (fun _ _ _ h => h) (Or.inl ⟨by rfl, ?_⟩) S3 ?_
          rotate_left
          · intro W hSw
            go_simp
            try with_reducible rfl
          simp only [Act.put, List.setIfInBounds_toArray, List.set_cons_zero, List.set_cons_succ]
          refine wpAnyH_done (by kernel_rfl) ?_ _
          rw [unhide HEL]
          have HN2 := hide hn2
          clear S2 S3 nmc bA hS0 tc k7' ty z1 hn2
          go_wp2
          go_round
          case rel => exact ⟨k + 1, by have := unhide HNN; have := unhide HJ; have := unhide HN2; omega, by rw [show ((z.y.i.length + (k + 1) : Nat) : Int) = (nn : Int) + 1 by have := unhide HNN; omega]; try go_num, rfl, unhide HB3⟩
          case measure => have := unhide HNN; have := unhide HJ; have := unhide HN2; simp [intOf]; omega
    · clear hj hb
      rw [show ((2 : Nat) : Int) = 2 from rfl]
      go_wp2
      go_ret
      exact ⟨rfl, unhide HB⟩
end Go.Proofs.YtbkcgkffafjbgaaGreatDoor
