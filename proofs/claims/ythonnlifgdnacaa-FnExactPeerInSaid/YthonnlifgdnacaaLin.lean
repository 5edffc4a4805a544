/- The law of PeerIn, walked. -/
import Derived.Test.YthonnlifgdnacaaInp
namespace Go.Proofs.Ythonnlifgdnacaa
open Go.RowKit
set_option maxHeartbeats 4000000
set_option maxRecDepth 20000
theorem step_storeRow {ops : Array Oper} {o : Oper} {a : Act} {w : World} {K : Act → World → Prop} {Q : Exit → Act → World → Prop} {E : Prop} (hw : Region.wanted o (yielded ops a.tmps) = true) (ty : TypeId) (x y : Operand) (ho : o.op = .store ty x y)
    (g : Nat) (cells : Array Value) (hx : a.eval x = .pointer (some ⟨g, 0, none⟩)) (hy : a.eval y = .agg cells) (t : TypeId) (old : Array Value) (hg : w.heap[g]? = some (.cells old t (0, 0))) (hi : (Try.prog.info? ty).map (·.size) = some cells.size)
    (hold : old.size = cells.size) (h1 : cells.all (·.oneCell') = true) (h : K (a.put o.dst undef) (w.setRow g cells)) : if Region.wanted o (yielded ops a.tmps) = true then Oper.wp Try.prog o a w K Q else E := by
  rw [if_pos hw]
  exact wp_store_row ty x y ho g cells hx hy t old hg hi hold h1 h
theorem law_in (w : World) (v : Value) (p : Pe) (hv : peV w v p) (hf : peFits p) (f : Fr) (hb : f.b.size ≤ maxLen) :
    Calls Try.prog 9 #[v, frV f] w fun e w' => e = .returned (.bool true) ∧ Below w.heap.size w w' := by
  obtain ⟨q, i, rfl, hq, hi⟩ := hv
  have hv : peV w (peA q p.s p.e i) p := ⟨q, i, rfl, hq, hi⟩
  have h6 := hide (fun W (h : peV W (peA q p.s p.e i) p) => sz25 (peA q p.s p.e i) p 1048576 W h hf (by omega) (by omega))
  have HV := hide hv
  have HTO : Hid (peFew p → ∀ W, peV W (peA q p.s p.e i) p → Calls Try.prog 27 #[peA q p.s p.e i] W fun e w' => ∃ r, e = .returned r ∧ peO W.heap.size w'.heap.size w' r p ∧ Below W.heap.size W w') := hide fun hn W hu => to27 _ p W hu hn
  have HEQ : Hid (peFew p → ∀ u u' W, peV W u p → peV W u' p → Calls Try.prog 28 #[u, u'] W fun e w' => e = .returned (.bool true) ∧ Below W.heap.size W w') := hide fun hn u u' W hu hu' => eq28 u u' p W hu hu' hn
  have h7 := hide (fun L W h0 h1 => sz32 f L W hb h0 h1)
  have HTF := hide (fun W => to33 f W)
  have HSP : Hid (peFew p → ∀ u W, peV W u p → capQ u p → Calls Try.prog 19 #[u, frV f] W fun e w' => outO W (inR p f).1 (inR p f).2 e w') := hide fun hn u W hu hc => pin19 u p f W hu hc hn hb
  have HIM : Hid (peFew p → ∀ u W, peV W u p → Calls Try.prog 18 #[u, frV f] W fun e w' => outO W (inR p f).1 (inR p f).2 e w') := hide fun hn u W hu => pin18 u p f W hu hn hb
  have HMX : Hid (peFew p → ∃ k : Int, 0 ≤ k ∧ ∀ lo hi u W, peO lo hi W u p → hi ≤ W.heap.size → Calls Try.prog 29 #[u, .int .i64 1] W fun e w' => e = .returned (.int .i64 k) ∧ peO lo hi w' u (markP p 1) ∧ TouchR lo hi W w') := hide fun hn => ⟨_, Int.natCast_nonneg _, fun lo hi u W hu hh => mark29 lo hi u p 1 W hu hn (by omega) hh⟩
  have HY := hide (inR_few p f)
  generalize (inR p f) = rr at *
  obtain ⟨y, c⟩ := rr
  dsimp only at HSP HIM HY
  have HEY : Hid (∀ u u' W, peV W u y → peV W u' y → Calls Try.prog 28 #[u, u'] W fun e w' => e = .returned (.bool true) ∧ Below W.heap.size W w') := hide fun u u' W hu hu' => eq28 u u' y W hu hu' (unhide HY)
  obtain ⟨km, hkm⟩ : ∃ k : Nat, k = 1 + y.q.length + y.i.length := ⟨_, rfl⟩
  have HMY : Hid (∀ lo hi u W, peO lo hi W u y → hi ≤ W.heap.size → Calls Try.prog 29 #[u, .int .i64 1] W fun e w' => e = .returned (.int .i64 (km : Int)) ∧ peO lo hi w' u (markP y 1) ∧ TouchR lo hi W w') := hide fun lo hi u W hu hh => by rw [hkm]; exact mark29 lo hi u y 1 W hu (unhide HY) (by omega) hh
  have HHY : Hid (∀ u W, peV W u (markP y 1) → Calls Try.prog 30 #[u, .int .i64 1] W fun e w' => e = .returned (.int .i64 (km : Int)) ∧ Below W.heap.size W w') := hide fun u W hu => by rw [hkm]; exact held30 u y 1 W hu (unhide HY) (by omega)
  have k0 : (0 : Int) ≤ (km : Int) := Int.natCast_nonneg _
  clear hkm
  have B0 : Below w.heap.size w ((w.alloc (.cells #[q, .int .i64 p.s, .int .i64 p.e, i] 48)).alloc (.cells #[.int .i64 f.s, .int .i64 f.a, .bool f.h, .string f.b] 55)) := bl_al (bl_al (Below.refl _ _))
  have HB := hide B0
  have HC := hide ((pc_new w q p.s p.e i 48).below (bl_al (o := .cells #[.int .i64 f.s, .int .i64 f.a, .bool f.h, .string f.b] 55) (Below.refl _ _)))
  have HD := fc_new (w.alloc (.cells #[q, .int .i64 p.s, .int .i64 p.e, i] 48)) f.s f.a f.h f.b 55
  rw [show (w.alloc (.cells #[q, .int .i64 p.s, .int .i64 p.e, i] 48)).heap.size = w.heap.size + 1 by simp] at HD
  have HD := hide HD
  have SZ : Hid (((w.alloc (.cells #[q, .int .i64 p.s, .int .i64 p.e, i] 48)).alloc (.cells #[.int .i64 f.s, .int .i64 f.a, .bool f.h, .string f.b] 55)).heap.size = w.heap.size + 1 + 1) := hide (by simp)
  clear hf hv hq hi B0 hb
  obtain ⟨_, c0, c1, c2, c3⟩ := unhide HC
  obtain ⟨_, d0, d1, d2, d3⟩ := unhide HD
  go_enter Try.func9, Try.ntmps9
  go_wp2_with fail
  generalize (w.alloc (.cells #[q, .int .i64 p.s, .int .i64 p.e, i] 48)).alloc (.cells #[.int .i64 f.s, .int .i64 f.a, .bool f.h, .string f.b] 55) = w0 at *
  refine (unhide h6 w0 ((unhide HV).below (unhide HB))).mono ?_
  rintro e w1 ⟨z, rfl, hz, b1⟩
  have B_1 := hide (bl_st b1 (unhide HB))
  have Q_2 := hide ((unhide HC).below b1)
  have P_3 := hide ((unhide HD).below b1)
  have Z4 := hide b1.size
  clear HB HC HD
  have HZ := hide hz
  clear hz b1 h6 c0 c1 c2 c3 d0 d1 d2 d3
  by_cases hneg : z < 0
  · go_wp2
    go_ret
    exact ⟨rfl, unhide B_1⟩
  have HN : Hid (peFew p) := hide (by have := Or.resolve_left (unhide HZ) hneg; exact ⟨by omega, by omega⟩)
  have hge : 0 ≤ z := by omega
  have h8 := hide (unhide h7 z w1 hge (by have := Or.resolve_left (unhide HZ) hneg; omega))
  clear hneg HZ h7
  obtain ⟨_, c5, c6, c7, c8⟩ := unhide P_3
  go_wp2_with fail
  refine (unhide h8).mono ?_
  rintro e w2 ⟨zz, rfl, hz, b2⟩
  clear c5 c6 c7 c8
  have B_9 := hide (bl_st b2 (unhide B_1))
  have Q_10 := hide ((unhide Q_2).below b2)
  have P_11 := hide ((unhide P_3).below b2)
  have Z12 := hide b2.size
  clear B_1 Q_2 P_3
  have HZ := hide hz
  clear hz b2 h8
  by_cases hneg : zz < 0
  · go_wp2
    go_ret
    exact ⟨rfl, unhide B_9⟩
  have hge2 : 0 ≤ zz := by omega
  clear hneg HZ
  have HMX2 := hide (unhide HMX (unhide HN))
  clear HMX
  go_wp2
  refine Code.wp_mono (Q := fun e aQ W5 => ∃ (X1 : Option Addr) (X2 : Nat) (X3 : Option Addr) (X4 : Nat) (u1 : Value) (gW : Nat), e = .normal ∧ aQ = { tmps := #[peA q p.s p.e i, frV f, Value.pointer (some { block := w.heap.size, off := 0 }), Value.pointer (some { block := w.heap.size + 1, off := 0 }), Value.bool false, Value.int IntKind.i64 zz, .pointer (some ⟨gW, 0, none⟩), .int .i64 c, undef, undef, undef, undef, undef, undef, undef, undef, Value.agg #[q, Value.int IntKind.i64 p.s, Value.int IntKind.i64 p.e, i], Value.int IntKind.i64 1048576, Value.int IntKind.i64 z, Value.int IntKind.i64 z, Value.bool (decide (z < 0)), Value.agg #[Value.int IntKind.i64 f.s, Value.int IntKind.i64 f.a, Value.bool f.h, Value.string f.b], Value.int IntKind.i64 z, Value.int IntKind.i64 zz, Value.int IntKind.i64 zz, Value.bool (decide (zz < 0)), .tuple #[peA (.slice X1 y.q.length X2) y.s y.e (.slice X3 y.i.length X4), .int .i64 c], peA q p.s p.e i, u1, frV f, frV f, .tuple #[peA (.slice X1 y.q.length X2) y.s y.e (.slice X3 y.i.length X4), .int .i64 c], peA (.slice X1 y.q.length X2) y.s y.e (.slice X3 y.i.length X4), .int .i64 c, undef, undef, undef, undef, undef, undef, undef, undef, undef, undef, undef, undef, undef, undef, undef, undef, undef, undef, undef, undef, undef, undef, undef, undef, undef, undef, undef, undef, undef, undef, undef, undef, undef, undef, undef, undef, undef, undef, undef, undef, undef, undef, undef, undef, undef, undef, undef, undef, undef, undef, undef, undef, undef, undef, undef, undef, undef, undef, undef, undef, undef, undef, undef, undef, undef, undef, undef, undef, undef, undef, undef, undef, undef, undef, undef], defers := [] } ∧ (∃ lo hi, peO lo hi W5 (peA (.slice X1 y.q.length X2) y.s y.e (.slice X3 y.i.length X4)) y ∧ w2.heap.size ≤ lo ∧ hi ≤ W5.heap.size ∧ (gW < lo ∨ hi ≤ gW)) ∧ PC gW (.slice X1 y.q.length X2) y.s y.e (.slice X3 y.i.length X4) W5 ∧ w2.heap.size ≤ gW ∧ Below w2.heap.size w2 W5) ?_ ?_
  rotate_left
  · refine wp_region_held (S := fun W' => Below w2.heap.size w2 W') (by kernel_rfl) ?_
    have hS0 : Below w2.heap.size w2 { w2 with drawn := w2.drawn + 1 } := below_drewN (Below.refl _ _) 1
    refine wpAnyH_take (i := 0) (oi := { dst := some 27, op := Op.load 48 (Operand.tmp 2), type := 48, pos := "exact.go:4276", after := #[], guard := none }) (v := ?_) rfl (by kernel_rfl) (by kernel_rfl) (by kernel_rfl) (fun _ _ _ h => by obtain ⟨_, _, _, _, _, _, h, _⟩ := h; cases h) (Or.inl ⟨by rfl, ?_⟩) hS0 ?_
    rotate_left
    · intro W hSw
      obtain ⟨_, c0, c1, c2, c3⟩ := (unhide Q_10).below hSw
      obtain ⟨_, d0, d1, d2, d3⟩ := (unhide P_11).below hSw
      go_simp
      try with_reducible rfl
    simp only [Act.put, List.setIfInBounds_toArray, List.set_cons_zero, List.set_cons_succ]
    refine wpAnyH_take (i := 2) (oi := { dst := some 29, op := Op.load 55 (Operand.tmp 3), type := 55, pos := "exact.go:4276", after := #[], guard := none }) (v := ?_) rfl (by kernel_rfl) (by kernel_rfl) (by kernel_rfl) (fun _ _ _ h => by obtain ⟨_, _, _, _, _, _, h, _⟩ := h; cases h) (Or.inl ⟨by rfl, ?_⟩) hS0 ?_
    rotate_left
    · intro W hSw
      obtain ⟨_, c0, c1, c2, c3⟩ := (unhide Q_10).below hSw
      obtain ⟨_, d0, d1, d2, d3⟩ := (unhide P_11).below hSw
      go_simp
      try with_reducible rfl
    simp only [Act.put, List.setIfInBounds_toArray, List.set_cons_zero, List.set_cons_succ]
    obtain ⟨v0, hv0⟩ : ∃ v0, v0 = ({ w2 with drawn := w2.drawn + 1 } : World) := ⟨_, rfl⟩
    have s0 : Below w2.heap.size w2 v0 := by rw [hv0]; exact hS0
    rw [← hv0]
    clear hv0 hS0
    refine wpAnyH_two (i := 1) (j := 8) (by kernel_rfl) ?_ ?_
    · refine wpOp_step (o := { dst := some 28, op := Op.call { callee := Callee.value (Operand.func 27), args := #[Operand.tmp 27], argTypes := #[48] }, type := 33, pos := "exact.go:4276", after := #[{ on := 0, ground := Ground.data }], guard := none }) rfl fun K' hK => step_enterW (by rfl) 27 #[peA q p.s p.e i] (by go_simp) ((unhide HTO (unhide HN) v0 (((unhide HV).below (unhide B_9)).below s0)).mono ?_)
      rintro e v1 ⟨u1, rfl, o1, b⟩
      have s1 := bl_st b s0
      have U1 := o1.pe
      have C1 := o1.cap
      clear o1
      clear b
      refine ⟨_, rfl, hK _ _ ⟨s1, ?_⟩⟩
      simp only [Act.put, List.setIfInBounds_toArray, List.set_cons_zero, List.set_cons_succ]
      refine wpAnyH_two (i := 3) (j := 8) (by kernel_rfl) ?_ ?_
      · refine wpOp_step (o := { dst := some 30, op := Op.call { callee := Callee.value (Operand.func 33), args := #[Operand.tmp 29], argTypes := #[55] }, type := 41, pos := "exact.go:4276", after := #[{ on := 2, ground := Ground.data }, { on := 1, ground := Ground.chain }], guard := none }) rfl fun K' hK => step_enterW (by rfl) 33 #[frV f] (by go_simp) ((unhide HTF v1).mono ?_)
        rintro e v2 ⟨rfl, b⟩
        have s2 := bl_st b s1
        have U1 := U1.below b
        clear b
        refine ⟨_, rfl, hK _ _ ⟨s2, ?_⟩⟩
        simp only [Act.put, List.setIfInBounds_toArray, List.set_cons_zero, List.set_cons_succ]
        refine wpAnyH_two (i := 4) (j := 8) (by kernel_rfl) ?_ ?_
        · refine wpOp_step (o := { dst := some 31, op := Op.call { callee := Callee.value (Operand.func 19), args := #[Operand.tmp 28, Operand.tmp 30], argTypes := #[33, 41] }, type := 42, pos := "exact.go:4276", after := #[{ on := 1, ground := Ground.data }, { on := 3, ground := Ground.data }, { on := 3, ground := Ground.chain }], guard := none }) rfl fun K' hK => step_enterW (by rfl) 19 #[u1, frV f] (by go_simp) ((unhide HSP (unhide HN) (u1) v2 U1 C1).mono ?_)
          rintro e v3 ⟨r3, rfl, oR, b⟩
          have s3 := bl_st b s2
          obtain ⟨X1, X2, X3, X4, hre⟩ := oR.pe.slices
          subst hre
          have bR := b
          have oR : ∃ lo hi, peO lo hi v3 (peA (.slice X1 y.q.length X2) y.s y.e (.slice X3 y.i.length X4)) y ∧ w2.heap.size ≤ lo ∧ hi ≤ v3.heap.size := ⟨_, _, oR, s2.size, Nat.le_refl _⟩
          clear b U1
          refine ⟨_, rfl, hK _ _ ⟨s3, ?_⟩⟩
          simp only [Act.put, List.setIfInBounds_toArray, List.set_cons_zero, List.set_cons_succ]
          refine wpAnyH_take (i := 5) (oi := { dst := some 26, op := Op.move (Operand.tmp 31), type := 42, pos := "exact.go:4276", after := #[{ on := 4, ground := Ground.data }], guard := none }) (v := ?_) rfl (by kernel_rfl) (by kernel_rfl) (by kernel_rfl) (fun _ _ _ h => by obtain ⟨_, _, _, _, _, _, h, _⟩ := h; cases h) (Or.inl ⟨by rfl, ?_⟩) s3 ?_
          rotate_left
          · intro W hSw
            go_simp
            try with_reducible rfl
          simp only [Act.put, List.setIfInBounds_toArray, List.set_cons_zero, List.set_cons_succ]
          refine wpAnyH_take (i := 6) (oi := { dst := some 32, op := Op.extract (Operand.tmp 26) 0, type := 33, pos := "exact.go:4276", after := #[{ on := 5, ground := Ground.data }], guard := none }) (v := ?_) rfl (by kernel_rfl) (by kernel_rfl) (by kernel_rfl) (fun _ _ _ h => by obtain ⟨_, _, _, _, _, _, h, _⟩ := h; cases h) (Or.inl ⟨by rfl, ?_⟩) s3 ?_
          rotate_left
          · intro W hSw
            go_simp
            try with_reducible rfl
          simp only [Act.put, List.setIfInBounds_toArray, List.set_cons_zero, List.set_cons_succ]
          refine wpAnyH_take (i := 7) (oi := { dst := some 33, op := Op.extract (Operand.tmp 26) 1, type := 3, pos := "exact.go:4276", after := #[{ on := 5, ground := Ground.data }, { on := 9, ground := Ground.gcOnly Departure.lateStores }], guard := none }) (v := ?_) rfl (by kernel_rfl) (by kernel_rfl) (by kernel_rfl) (fun _ _ _ h => by obtain ⟨_, _, _, _, _, _, h, _⟩ := h; cases h) (Or.inl ⟨by rfl, ?_⟩) s3 ?_
          rotate_left
          · intro W hSw
            go_simp
            try with_reducible rfl
          simp only [Act.put, List.setIfInBounds_toArray, List.set_cons_zero, List.set_cons_succ]
          refine wpAnyH_one (i := 8) (by kernel_rfl) ?_
          have s4 : Below w2.heap.size w2 (v3.alloc (.cells #[.slice none 0 0, .int .i64 0, .int .i64 0, .slice none 0 0] 33)) := bl_al s3
          have b : Below v3.heap.size v3 (v3.alloc (.cells #[.slice none 0 0, .int .i64 0, .int .i64 0, .slice none 0 0] 33)) := bl_al (Below.refl _ _)
          have hW := heap_alloc_new v3 (.cells #[.slice none 0 0, .int .i64 0, .int .i64 0, .slice none 0 0] 33)
          have lW : w2.heap.size ≤ v3.heap.size := s3.size
          have oR : ∃ lo hi, peO lo hi (v3.alloc (.cells #[.slice none 0 0, .int .i64 0, .int .i64 0, .slice none 0 0] 33)) (peA (.slice X1 y.q.length X2) y.s y.e (.slice X3 y.i.length X4)) y ∧ w2.heap.size ≤ lo ∧ hi ≤ (v3.alloc (.cells #[.slice none 0 0, .int .i64 0, .int .i64 0, .slice none 0 0] 33)).heap.size ∧ (v3.heap.size < lo ∨ hi ≤ v3.heap.size) := by
            obtain ⟨lo, hi, oo, o1, o2⟩ := oR
            exact ⟨lo, hi, oo.below b, o1, Nat.le_trans o2 b.size, .inr o2⟩
          clear b
          refine wpOp_step (o := { dst := some 6, op := Op.alloc 33, type := 0, pos := "exact.go:4276", after := #[], guard := none }) rfl fun K' hK => step_valueW (by rfl) (.pointer (some ⟨v3.heap.size, 0, none⟩)) (v3.alloc (.cells #[.slice none 0 0, .int .i64 0, .int .i64 0, .slice none 0 0] 33)) (by go_simp) ?_
          refine hK _ _ ⟨s4, ?_⟩
          simp only [Act.put, List.setIfInBounds_toArray, List.set_cons_zero, List.set_cons_succ]
          obtain ⟨gW, hgW⟩ : ∃ gW, gW = v3.heap.size := ⟨_, rfl⟩
          rw [← hgW] at hW lW ⊢
          rw [← hgW] at oR
          generalize v3.alloc (.cells #[.slice none 0 0, .int .i64 0, .int .i64 0, .slice none 0 0] 33) = v4 at *
          clear hgW
          have LW := lone_setRow gW v4 #[.slice X1 y.q.length X2, .int .i64 y.s, .int .i64 y.e, .slice X3 y.i.length X4]
          have z5 : Below w2.heap.size w2 (v4.setRow gW #[.slice X1 y.q.length X2, .int .i64 y.s, .int .i64 y.e, .slice X3 y.i.length X4]) := below_setRow s4 lW
          refine wpAnyH_one (i := 9) (by kernel_rfl) ?_
          refine wpOp_step (o := { dst := none, op := Op.store 33 (Operand.tmp 6) (Operand.tmp 32), type := 0, pos := "exact.go:4276", after := #[{ on := 8, ground := Ground.data }, { on := 6, ground := Ground.data }, { on := 4, ground := Ground.chain }, { on := 0, ground := Ground.phase }, { on := 1, ground := Ground.phase }, { on := 2, ground := Ground.phase }, { on := 3, ground := Ground.phase }, { on := 4, ground := Ground.phase }, { on := 5, ground := Ground.phase }, { on := 6, ground := Ground.phase }, { on := 7, ground := Ground.textOnly Departure.lateStores }, { on := 8, ground := Ground.phase }], guard := none }) rfl fun K' hK => step_storeRow (by rfl) 33 _ _ rfl gW #[.slice X1 y.q.length X2, .int .i64 y.s, .int .i64 y.e, .slice X3 y.i.length X4] rfl rfl 33 #[.slice none 0 0, .int .i64 0, .int .i64 0, .slice none 0 0] hW (by kernel_rfl) rfl (by kernel_rfl) ?_
          refine hK _ _ ⟨z5, ?_⟩
          try simp only [Act.put]
          refine wpAnyH_take (i := 10) (oi := { dst := some 7, op := Op.assign (Operand.tmp 33), type := 3, pos := "exact.go:4276", after := #[{ on := 7, ground := Ground.data }, { on := 9, ground := Ground.chain }, { on := 0, ground := Ground.phase }, { on := 1, ground := Ground.phase }, { on := 2, ground := Ground.phase }, { on := 3, ground := Ground.phase }, { on := 4, ground := Ground.phase }, { on := 5, ground := Ground.phase }, { on := 6, ground := Ground.phase }, { on := 7, ground := Ground.phase }, { on := 8, ground := Ground.phase }, { on := 9, ground := Ground.phase }], guard := none }) (v := ?_) rfl (by kernel_rfl) (by kernel_rfl) (by kernel_rfl) (fun _ _ _ h => by obtain ⟨_, _, _, _, _, _, h, _⟩ := h; cases h) (Or.inl ⟨by rfl, ?_⟩) z5 ?_
          rotate_left
          · intro W hSw
            go_simp
            try with_reducible rfl
          simp only [Act.put, List.setIfInBounds_toArray, List.set_cons_zero, List.set_cons_succ]
          refine wpAnyH_done (by kernel_rfl) ?_ _
          refine ⟨X1, X2, X3, X4, u1, gW, rfl, rfl, ?_, pc_row (get_setRow hW), lW, z5⟩
          obtain ⟨lo, hi, oo, o1, o2, o3⟩ := oR
          exact ⟨lo, hi, oo.lone LW o3, o1, by rw [size_setRow]; exact o2, o3⟩
        · have s3 : Below w2.heap.size w2 (v2.alloc (.cells #[.slice none 0 0, .int .i64 0, .int .i64 0, .slice none 0 0] 33)) := bl_al s2
          have b : Below v2.heap.size v2 (v2.alloc (.cells #[.slice none 0 0, .int .i64 0, .int .i64 0, .slice none 0 0] 33)) := bl_al (Below.refl _ _)
          have hW := heap_alloc_new v2 (.cells #[.slice none 0 0, .int .i64 0, .int .i64 0, .slice none 0 0] 33)
          have lW : w2.heap.size ≤ v2.heap.size := s2.size
          have U1 := U1.below b
          clear b
          refine wpOp_step (o := { dst := some 6, op := Op.alloc 33, type := 0, pos := "exact.go:4276", after := #[], guard := none }) rfl fun K' hK => step_valueW (by rfl) (.pointer (some ⟨v2.heap.size, 0, none⟩)) (v2.alloc (.cells #[.slice none 0 0, .int .i64 0, .int .i64 0, .slice none 0 0] 33)) (by go_simp) ?_
          refine hK _ _ ⟨s3, ?_⟩
          simp only [Act.put, List.setIfInBounds_toArray, List.set_cons_zero, List.set_cons_succ]
          obtain ⟨gW, hgW⟩ : ∃ gW, gW = v2.heap.size := ⟨_, rfl⟩
          rw [← hgW] at hW lW ⊢
          generalize v2.alloc (.cells #[.slice none 0 0, .int .i64 0, .int .i64 0, .slice none 0 0] 33) = v3 at *
          clear hgW
          refine wpAnyH_one (i := 4) (by kernel_rfl) ?_
          refine wpOp_step (o := { dst := some 31, op := Op.call { callee := Callee.value (Operand.func 19), args := #[Operand.tmp 28, Operand.tmp 30], argTypes := #[33, 41] }, type := 42, pos := "exact.go:4276", after := #[{ on := 1, ground := Ground.data }, { on := 3, ground := Ground.data }, { on := 3, ground := Ground.chain }], guard := none }) rfl fun K' hK => step_enterW (by rfl) 19 #[u1, frV f] (by go_simp) ((unhide HSP (unhide HN) (u1) v3 U1 C1).mono ?_)
          rintro e v4 ⟨r3, rfl, oR, b⟩
          have s4 := bl_st b s3
          obtain ⟨X1, X2, X3, X4, hre⟩ := oR.pe.slices
          subst hre
          have bR := b
          have jW := (Array.getElem?_eq_some_iff.1 hW).1
          have oR : ∃ lo hi, peO lo hi v4 (peA (.slice X1 y.q.length X2) y.s y.e (.slice X3 y.i.length X4)) y ∧ w2.heap.size ≤ lo ∧ hi ≤ v4.heap.size ∧ (gW < lo ∨ hi ≤ gW) := ⟨_, _, oR, s3.size, Nat.le_refl _, .inl jW⟩
          have hW := (b.block _ (Array.getElem?_eq_some_iff.1 hW).1).trans hW
          clear b U1
          refine ⟨_, rfl, hK _ _ ⟨s4, ?_⟩⟩
          simp only [Act.put, List.setIfInBounds_toArray, List.set_cons_zero, List.set_cons_succ]
          refine wpAnyH_take (i := 5) (oi := { dst := some 26, op := Op.move (Operand.tmp 31), type := 42, pos := "exact.go:4276", after := #[{ on := 4, ground := Ground.data }], guard := none }) (v := ?_) rfl (by kernel_rfl) (by kernel_rfl) (by kernel_rfl) (fun _ _ _ h => by obtain ⟨_, _, _, _, _, _, h, _⟩ := h; cases h) (Or.inl ⟨by rfl, ?_⟩) s4 ?_
          rotate_left
          · intro W hSw
            go_simp
            try with_reducible rfl
          simp only [Act.put, List.setIfInBounds_toArray, List.set_cons_zero, List.set_cons_succ]
          refine wpAnyH_take (i := 6) (oi := { dst := some 32, op := Op.extract (Operand.tmp 26) 0, type := 33, pos := "exact.go:4276", after := #[{ on := 5, ground := Ground.data }], guard := none }) (v := ?_) rfl (by kernel_rfl) (by kernel_rfl) (by kernel_rfl) (fun _ _ _ h => by obtain ⟨_, _, _, _, _, _, h, _⟩ := h; cases h) (Or.inl ⟨by rfl, ?_⟩) s4 ?_
          rotate_left
          · intro W hSw
            go_simp
            try with_reducible rfl
          simp only [Act.put, List.setIfInBounds_toArray, List.set_cons_zero, List.set_cons_succ]
          refine wpAnyH_take (i := 7) (oi := { dst := some 33, op := Op.extract (Operand.tmp 26) 1, type := 3, pos := "exact.go:4276", after := #[{ on := 5, ground := Ground.data }, { on := 9, ground := Ground.gcOnly Departure.lateStores }], guard := none }) (v := ?_) rfl (by kernel_rfl) (by kernel_rfl) (by kernel_rfl) (fun _ _ _ h => by obtain ⟨_, _, _, _, _, _, h, _⟩ := h; cases h) (Or.inl ⟨by rfl, ?_⟩) s4 ?_
          rotate_left
          · intro W hSw
            go_simp
            try with_reducible rfl
          simp only [Act.put, List.setIfInBounds_toArray, List.set_cons_zero, List.set_cons_succ]
          have LW := lone_setRow gW v4 #[.slice X1 y.q.length X2, .int .i64 y.s, .int .i64 y.e, .slice X3 y.i.length X4]
          have z5 : Below w2.heap.size w2 (v4.setRow gW #[.slice X1 y.q.length X2, .int .i64 y.s, .int .i64 y.e, .slice X3 y.i.length X4]) := below_setRow s4 lW
          refine wpAnyH_one (i := 9) (by kernel_rfl) ?_
          refine wpOp_step (o := { dst := none, op := Op.store 33 (Operand.tmp 6) (Operand.tmp 32), type := 0, pos := "exact.go:4276", after := #[{ on := 8, ground := Ground.data }, { on := 6, ground := Ground.data }, { on := 4, ground := Ground.chain }, { on := 0, ground := Ground.phase }, { on := 1, ground := Ground.phase }, { on := 2, ground := Ground.phase }, { on := 3, ground := Ground.phase }, { on := 4, ground := Ground.phase }, { on := 5, ground := Ground.phase }, { on := 6, ground := Ground.phase }, { on := 7, ground := Ground.textOnly Departure.lateStores }, { on := 8, ground := Ground.phase }], guard := none }) rfl fun K' hK => step_storeRow (by rfl) 33 _ _ rfl gW #[.slice X1 y.q.length X2, .int .i64 y.s, .int .i64 y.e, .slice X3 y.i.length X4] rfl rfl 33 #[.slice none 0 0, .int .i64 0, .int .i64 0, .slice none 0 0] hW (by kernel_rfl) rfl (by kernel_rfl) ?_
          refine hK _ _ ⟨z5, ?_⟩
          try simp only [Act.put]
          refine wpAnyH_take (i := 10) (oi := { dst := some 7, op := Op.assign (Operand.tmp 33), type := 3, pos := "exact.go:4276", after := #[{ on := 7, ground := Ground.data }, { on := 9, ground := Ground.chain }, { on := 0, ground := Ground.phase }, { on := 1, ground := Ground.phase }, { on := 2, ground := Ground.phase }, { on := 3, ground := Ground.phase }, { on := 4, ground := Ground.phase }, { on := 5, ground := Ground.phase }, { on := 6, ground := Ground.phase }, { on := 7, ground := Ground.phase }, { on := 8, ground := Ground.phase }, { on := 9, ground := Ground.phase }], guard := none }) (v := ?_) rfl (by kernel_rfl) (by kernel_rfl) (by kernel_rfl) (fun _ _ _ h => by obtain ⟨_, _, _, _, _, _, h, _⟩ := h; cases h) (Or.inl ⟨by rfl, ?_⟩) z5 ?_
          rotate_left
          · intro W hSw
            go_simp
            try with_reducible rfl
          simp only [Act.put, List.setIfInBounds_toArray, List.set_cons_zero, List.set_cons_succ]
          refine wpAnyH_done (by kernel_rfl) ?_ _
          refine ⟨X1, X2, X3, X4, u1, gW, rfl, rfl, ?_, pc_row (get_setRow hW), lW, z5⟩
          obtain ⟨lo, hi, oo, o1, o2, o3⟩ := oR
          exact ⟨lo, hi, oo.lone LW o3, o1, by rw [size_setRow]; exact o2, o3⟩
      · have s2 : Below w2.heap.size w2 (v1.alloc (.cells #[.slice none 0 0, .int .i64 0, .int .i64 0, .slice none 0 0] 33)) := bl_al s1
        have b : Below v1.heap.size v1 (v1.alloc (.cells #[.slice none 0 0, .int .i64 0, .int .i64 0, .slice none 0 0] 33)) := bl_al (Below.refl _ _)
        have hW := heap_alloc_new v1 (.cells #[.slice none 0 0, .int .i64 0, .int .i64 0, .slice none 0 0] 33)
        have lW : w2.heap.size ≤ v1.heap.size := s1.size
        have U1 := U1.below b
        clear b
        refine wpOp_step (o := { dst := some 6, op := Op.alloc 33, type := 0, pos := "exact.go:4276", after := #[], guard := none }) rfl fun K' hK => step_valueW (by rfl) (.pointer (some ⟨v1.heap.size, 0, none⟩)) (v1.alloc (.cells #[.slice none 0 0, .int .i64 0, .int .i64 0, .slice none 0 0] 33)) (by go_simp) ?_
        refine hK _ _ ⟨s2, ?_⟩
        simp only [Act.put, List.setIfInBounds_toArray, List.set_cons_zero, List.set_cons_succ]
        obtain ⟨gW, hgW⟩ : ∃ gW, gW = v1.heap.size := ⟨_, rfl⟩
        rw [← hgW] at hW lW ⊢
        generalize v1.alloc (.cells #[.slice none 0 0, .int .i64 0, .int .i64 0, .slice none 0 0] 33) = v2 at *
        clear hgW
        refine wpAnyH_one (i := 3) (by kernel_rfl) ?_
        refine wpOp_step (o := { dst := some 30, op := Op.call { callee := Callee.value (Operand.func 33), args := #[Operand.tmp 29], argTypes := #[55] }, type := 41, pos := "exact.go:4276", after := #[{ on := 2, ground := Ground.data }, { on := 1, ground := Ground.chain }], guard := none }) rfl fun K' hK => step_enterW (by rfl) 33 #[frV f] (by go_simp) ((unhide HTF v2).mono ?_)
        rintro e v3 ⟨rfl, b⟩
        have s3 := bl_st b s2
        have U1 := U1.below b
        have hW := (b.block _ (Array.getElem?_eq_some_iff.1 hW).1).trans hW
        clear b
        refine ⟨_, rfl, hK _ _ ⟨s3, ?_⟩⟩
        simp only [Act.put, List.setIfInBounds_toArray, List.set_cons_zero, List.set_cons_succ]
        refine wpAnyH_one (i := 4) (by kernel_rfl) ?_
        refine wpOp_step (o := { dst := some 31, op := Op.call { callee := Callee.value (Operand.func 19), args := #[Operand.tmp 28, Operand.tmp 30], argTypes := #[33, 41] }, type := 42, pos := "exact.go:4276", after := #[{ on := 1, ground := Ground.data }, { on := 3, ground := Ground.data }, { on := 3, ground := Ground.chain }], guard := none }) rfl fun K' hK => step_enterW (by rfl) 19 #[u1, frV f] (by go_simp) ((unhide HSP (unhide HN) (u1) v3 U1 C1).mono ?_)
        rintro e v4 ⟨r3, rfl, oR, b⟩
        have s4 := bl_st b s3
        obtain ⟨X1, X2, X3, X4, hre⟩ := oR.pe.slices
        subst hre
        have bR := b
        have jW := (Array.getElem?_eq_some_iff.1 hW).1
        have oR : ∃ lo hi, peO lo hi v4 (peA (.slice X1 y.q.length X2) y.s y.e (.slice X3 y.i.length X4)) y ∧ w2.heap.size ≤ lo ∧ hi ≤ v4.heap.size ∧ (gW < lo ∨ hi ≤ gW) := ⟨_, _, oR, s3.size, Nat.le_refl _, .inl jW⟩
        have hW := (b.block _ (Array.getElem?_eq_some_iff.1 hW).1).trans hW
        clear b U1
        refine ⟨_, rfl, hK _ _ ⟨s4, ?_⟩⟩
        simp only [Act.put, List.setIfInBounds_toArray, List.set_cons_zero, List.set_cons_succ]
        refine wpAnyH_take (i := 5) (oi := { dst := some 26, op := Op.move (Operand.tmp 31), type := 42, pos := "exact.go:4276", after := #[{ on := 4, ground := Ground.data }], guard := none }) (v := ?_) rfl (by kernel_rfl) (by kernel_rfl) (by kernel_rfl) (fun _ _ _ h => by obtain ⟨_, _, _, _, _, _, h, _⟩ := h; cases h) (Or.inl ⟨by rfl, ?_⟩) s4 ?_
        rotate_left
        · intro W hSw
          go_simp
          try with_reducible rfl
        simp only [Act.put, List.setIfInBounds_toArray, List.set_cons_zero, List.set_cons_succ]
        refine wpAnyH_take (i := 6) (oi := { dst := some 32, op := Op.extract (Operand.tmp 26) 0, type := 33, pos := "exact.go:4276", after := #[{ on := 5, ground := Ground.data }], guard := none }) (v := ?_) rfl (by kernel_rfl) (by kernel_rfl) (by kernel_rfl) (fun _ _ _ h => by obtain ⟨_, _, _, _, _, _, h, _⟩ := h; cases h) (Or.inl ⟨by rfl, ?_⟩) s4 ?_
        rotate_left
        · intro W hSw
          go_simp
          try with_reducible rfl
        simp only [Act.put, List.setIfInBounds_toArray, List.set_cons_zero, List.set_cons_succ]
        refine wpAnyH_take (i := 7) (oi := { dst := some 33, op := Op.extract (Operand.tmp 26) 1, type := 3, pos := "exact.go:4276", after := #[{ on := 5, ground := Ground.data }, { on := 9, ground := Ground.gcOnly Departure.lateStores }], guard := none }) (v := ?_) rfl (by kernel_rfl) (by kernel_rfl) (by kernel_rfl) (fun _ _ _ h => by obtain ⟨_, _, _, _, _, _, h, _⟩ := h; cases h) (Or.inl ⟨by rfl, ?_⟩) s4 ?_
        rotate_left
        · intro W hSw
          go_simp
          try with_reducible rfl
        simp only [Act.put, List.setIfInBounds_toArray, List.set_cons_zero, List.set_cons_succ]
        have LW := lone_setRow gW v4 #[.slice X1 y.q.length X2, .int .i64 y.s, .int .i64 y.e, .slice X3 y.i.length X4]
        have z5 : Below w2.heap.size w2 (v4.setRow gW #[.slice X1 y.q.length X2, .int .i64 y.s, .int .i64 y.e, .slice X3 y.i.length X4]) := below_setRow s4 lW
        refine wpAnyH_one (i := 9) (by kernel_rfl) ?_
        refine wpOp_step (o := { dst := none, op := Op.store 33 (Operand.tmp 6) (Operand.tmp 32), type := 0, pos := "exact.go:4276", after := #[{ on := 8, ground := Ground.data }, { on := 6, ground := Ground.data }, { on := 4, ground := Ground.chain }, { on := 0, ground := Ground.phase }, { on := 1, ground := Ground.phase }, { on := 2, ground := Ground.phase }, { on := 3, ground := Ground.phase }, { on := 4, ground := Ground.phase }, { on := 5, ground := Ground.phase }, { on := 6, ground := Ground.phase }, { on := 7, ground := Ground.textOnly Departure.lateStores }, { on := 8, ground := Ground.phase }], guard := none }) rfl fun K' hK => step_storeRow (by rfl) 33 _ _ rfl gW #[.slice X1 y.q.length X2, .int .i64 y.s, .int .i64 y.e, .slice X3 y.i.length X4] rfl rfl 33 #[.slice none 0 0, .int .i64 0, .int .i64 0, .slice none 0 0] hW (by kernel_rfl) rfl (by kernel_rfl) ?_
        refine hK _ _ ⟨z5, ?_⟩
        try simp only [Act.put]
        refine wpAnyH_take (i := 10) (oi := { dst := some 7, op := Op.assign (Operand.tmp 33), type := 3, pos := "exact.go:4276", after := #[{ on := 7, ground := Ground.data }, { on := 9, ground := Ground.chain }, { on := 0, ground := Ground.phase }, { on := 1, ground := Ground.phase }, { on := 2, ground := Ground.phase }, { on := 3, ground := Ground.phase }, { on := 4, ground := Ground.phase }, { on := 5, ground := Ground.phase }, { on := 6, ground := Ground.phase }, { on := 7, ground := Ground.phase }, { on := 8, ground := Ground.phase }, { on := 9, ground := Ground.phase }], guard := none }) (v := ?_) rfl (by kernel_rfl) (by kernel_rfl) (by kernel_rfl) (fun _ _ _ h => by obtain ⟨_, _, _, _, _, _, h, _⟩ := h; cases h) (Or.inl ⟨by rfl, ?_⟩) z5 ?_
        rotate_left
        · intro W hSw
          go_simp
          try with_reducible rfl
        simp only [Act.put, List.setIfInBounds_toArray, List.set_cons_zero, List.set_cons_succ]
        refine wpAnyH_done (by kernel_rfl) ?_ _
        refine ⟨X1, X2, X3, X4, u1, gW, rfl, rfl, ?_, pc_row (get_setRow hW), lW, z5⟩
        obtain ⟨lo, hi, oo, o1, o2, o3⟩ := oR
        exact ⟨lo, hi, oo.lone LW o3, o1, by rw [size_setRow]; exact o2, o3⟩
    · have s1 : Below w2.heap.size w2 (v0.alloc (.cells #[.slice none 0 0, .int .i64 0, .int .i64 0, .slice none 0 0] 33)) := bl_al s0
      have b : Below v0.heap.size v0 (v0.alloc (.cells #[.slice none 0 0, .int .i64 0, .int .i64 0, .slice none 0 0] 33)) := bl_al (Below.refl _ _)
      have hW := heap_alloc_new v0 (.cells #[.slice none 0 0, .int .i64 0, .int .i64 0, .slice none 0 0] 33)
      have lW : w2.heap.size ≤ v0.heap.size := s0.size
      clear b
      refine wpOp_step (o := { dst := some 6, op := Op.alloc 33, type := 0, pos := "exact.go:4276", after := #[], guard := none }) rfl fun K' hK => step_valueW (by rfl) (.pointer (some ⟨v0.heap.size, 0, none⟩)) (v0.alloc (.cells #[.slice none 0 0, .int .i64 0, .int .i64 0, .slice none 0 0] 33)) (by go_simp) ?_
      refine hK _ _ ⟨s1, ?_⟩
      simp only [Act.put, List.setIfInBounds_toArray, List.set_cons_zero, List.set_cons_succ]
      obtain ⟨gW, hgW⟩ : ∃ gW, gW = v0.heap.size := ⟨_, rfl⟩
      rw [← hgW] at hW lW ⊢
      generalize v0.alloc (.cells #[.slice none 0 0, .int .i64 0, .int .i64 0, .slice none 0 0] 33) = v1 at *
      clear hgW
      refine wpAnyH_one (i := 1) (by kernel_rfl) ?_
      refine wpOp_step (o := { dst := some 28, op := Op.call { callee := Callee.value (Operand.func 27), args := #[Operand.tmp 27], argTypes := #[48] }, type := 33, pos := "exact.go:4276", after := #[{ on := 0, ground := Ground.data }], guard := none }) rfl fun K' hK => step_enterW (by rfl) 27 #[peA q p.s p.e i] (by go_simp) ((unhide HTO (unhide HN) v1 (((unhide HV).below (unhide B_9)).below s1)).mono ?_)
      rintro e v2 ⟨u1, rfl, o1, b⟩
      have s2 := bl_st b s1
      have U1 := o1.pe
      have C1 := o1.cap
      clear o1
      have hW := (b.block _ (Array.getElem?_eq_some_iff.1 hW).1).trans hW
      clear b
      refine ⟨_, rfl, hK _ _ ⟨s2, ?_⟩⟩
      simp only [Act.put, List.setIfInBounds_toArray, List.set_cons_zero, List.set_cons_succ]
      refine wpAnyH_one (i := 3) (by kernel_rfl) ?_
      refine wpOp_step (o := { dst := some 30, op := Op.call { callee := Callee.value (Operand.func 33), args := #[Operand.tmp 29], argTypes := #[55] }, type := 41, pos := "exact.go:4276", after := #[{ on := 2, ground := Ground.data }, { on := 1, ground := Ground.chain }], guard := none }) rfl fun K' hK => step_enterW (by rfl) 33 #[frV f] (by go_simp) ((unhide HTF v2).mono ?_)
      rintro e v3 ⟨rfl, b⟩
      have s3 := bl_st b s2
      have U1 := U1.below b
      have hW := (b.block _ (Array.getElem?_eq_some_iff.1 hW).1).trans hW
      clear b
      refine ⟨_, rfl, hK _ _ ⟨s3, ?_⟩⟩
      simp only [Act.put, List.setIfInBounds_toArray, List.set_cons_zero, List.set_cons_succ]
      refine wpAnyH_one (i := 4) (by kernel_rfl) ?_
      refine wpOp_step (o := { dst := some 31, op := Op.call { callee := Callee.value (Operand.func 19), args := #[Operand.tmp 28, Operand.tmp 30], argTypes := #[33, 41] }, type := 42, pos := "exact.go:4276", after := #[{ on := 1, ground := Ground.data }, { on := 3, ground := Ground.data }, { on := 3, ground := Ground.chain }], guard := none }) rfl fun K' hK => step_enterW (by rfl) 19 #[u1, frV f] (by go_simp) ((unhide HSP (unhide HN) (u1) v3 U1 C1).mono ?_)
      rintro e v4 ⟨r3, rfl, oR, b⟩
      have s4 := bl_st b s3
      obtain ⟨X1, X2, X3, X4, hre⟩ := oR.pe.slices
      subst hre
      have bR := b
      have jW := (Array.getElem?_eq_some_iff.1 hW).1
      have oR : ∃ lo hi, peO lo hi v4 (peA (.slice X1 y.q.length X2) y.s y.e (.slice X3 y.i.length X4)) y ∧ w2.heap.size ≤ lo ∧ hi ≤ v4.heap.size ∧ (gW < lo ∨ hi ≤ gW) := ⟨_, _, oR, s3.size, Nat.le_refl _, .inl jW⟩
      have hW := (b.block _ (Array.getElem?_eq_some_iff.1 hW).1).trans hW
      clear b U1
      refine ⟨_, rfl, hK _ _ ⟨s4, ?_⟩⟩
      simp only [Act.put, List.setIfInBounds_toArray, List.set_cons_zero, List.set_cons_succ]
      refine wpAnyH_take (i := 5) (oi := { dst := some 26, op := Op.move (Operand.tmp 31), type := 42, pos := "exact.go:4276", after := #[{ on := 4, ground := Ground.data }], guard := none }) (v := ?_) rfl (by kernel_rfl) (by kernel_rfl) (by kernel_rfl) (fun _ _ _ h => by obtain ⟨_, _, _, _, _, _, h, _⟩ := h; cases h) (Or.inl ⟨by rfl, ?_⟩) s4 ?_
      rotate_left
      · intro W hSw
        go_simp
        try with_reducible rfl
      simp only [Act.put, List.setIfInBounds_toArray, List.set_cons_zero, List.set_cons_succ]
      refine wpAnyH_take (i := 6) (oi := { dst := some 32, op := Op.extract (Operand.tmp 26) 0, type := 33, pos := "exact.go:4276", after := #[{ on := 5, ground := Ground.data }], guard := none }) (v := ?_) rfl (by kernel_rfl) (by kernel_rfl) (by kernel_rfl) (fun _ _ _ h => by obtain ⟨_, _, _, _, _, _, h, _⟩ := h; cases h) (Or.inl ⟨by rfl, ?_⟩) s4 ?_
      rotate_left
      · intro W hSw
        go_simp
        try with_reducible rfl
      simp only [Act.put, List.setIfInBounds_toArray, List.set_cons_zero, List.set_cons_succ]
      refine wpAnyH_take (i := 7) (oi := { dst := some 33, op := Op.extract (Operand.tmp 26) 1, type := 3, pos := "exact.go:4276", after := #[{ on := 5, ground := Ground.data }, { on := 9, ground := Ground.gcOnly Departure.lateStores }], guard := none }) (v := ?_) rfl (by kernel_rfl) (by kernel_rfl) (by kernel_rfl) (fun _ _ _ h => by obtain ⟨_, _, _, _, _, _, h, _⟩ := h; cases h) (Or.inl ⟨by rfl, ?_⟩) s4 ?_
      rotate_left
      · intro W hSw
        go_simp
        try with_reducible rfl
      simp only [Act.put, List.setIfInBounds_toArray, List.set_cons_zero, List.set_cons_succ]
      have LW := lone_setRow gW v4 #[.slice X1 y.q.length X2, .int .i64 y.s, .int .i64 y.e, .slice X3 y.i.length X4]
      have z5 : Below w2.heap.size w2 (v4.setRow gW #[.slice X1 y.q.length X2, .int .i64 y.s, .int .i64 y.e, .slice X3 y.i.length X4]) := below_setRow s4 lW
      refine wpAnyH_one (i := 9) (by kernel_rfl) ?_
      refine wpOp_step (o := { dst := none, op := Op.store 33 (Operand.tmp 6) (Operand.tmp 32), type := 0, pos := "exact.go:4276", after := #[{ on := 8, ground := Ground.data }, { on := 6, ground := Ground.data }, { on := 4, ground := Ground.chain }, { on := 0, ground := Ground.phase }, { on := 1, ground := Ground.phase }, { on := 2, ground := Ground.phase }, { on := 3, ground := Ground.phase }, { on := 4, ground := Ground.phase }, { on := 5, ground := Ground.phase }, { on := 6, ground := Ground.phase }, { on := 7, ground := Ground.textOnly Departure.lateStores }, { on := 8, ground := Ground.phase }], guard := none }) rfl fun K' hK => step_storeRow (by rfl) 33 _ _ rfl gW #[.slice X1 y.q.length X2, .int .i64 y.s, .int .i64 y.e, .slice X3 y.i.length X4] rfl rfl 33 #[.slice none 0 0, .int .i64 0, .int .i64 0, .slice none 0 0] hW (by kernel_rfl) rfl (by kernel_rfl) ?_
      refine hK _ _ ⟨z5, ?_⟩
      try simp only [Act.put]
      refine wpAnyH_take (i := 10) (oi := { dst := some 7, op := Op.assign (Operand.tmp 33), type := 3, pos := "exact.go:4276", after := #[{ on := 7, ground := Ground.data }, { on := 9, ground := Ground.chain }, { on := 0, ground := Ground.phase }, { on := 1, ground := Ground.phase }, { on := 2, ground := Ground.phase }, { on := 3, ground := Ground.phase }, { on := 4, ground := Ground.phase }, { on := 5, ground := Ground.phase }, { on := 6, ground := Ground.phase }, { on := 7, ground := Ground.phase }, { on := 8, ground := Ground.phase }, { on := 9, ground := Ground.phase }], guard := none }) (v := ?_) rfl (by kernel_rfl) (by kernel_rfl) (by kernel_rfl) (fun _ _ _ h => by obtain ⟨_, _, _, _, _, _, h, _⟩ := h; cases h) (Or.inl ⟨by rfl, ?_⟩) z5 ?_
      rotate_left
      · intro W hSw
        go_simp
        try with_reducible rfl
      simp only [Act.put, List.setIfInBounds_toArray, List.set_cons_zero, List.set_cons_succ]
      refine wpAnyH_done (by kernel_rfl) ?_ _
      refine ⟨X1, X2, X3, X4, u1, gW, rfl, rfl, ?_, pc_row (get_setRow hW), lW, z5⟩
      obtain ⟨lo, hi, oo, o1, o2, o3⟩ := oR
      exact ⟨lo, hi, oo.lone LW o3, o1, by rw [size_setRow]; exact o2, o3⟩
  rintro e1 aQ wA ⟨A1, A2, A3, A4, uuwA, gA, rfl, rfl, ⟨lowA, hiwA, o5, l1, l2, l3⟩, pc5, lg5, b5⟩
  have B_13 := hide (bl_st b5 (unhide B_9))
  have Q_14 := hide ((unhide Q_10).below b5)
  have P_15 := hide ((unhide P_11).below b5)
  have Z16 := hide b5.size
  clear B_9 Q_10 P_11
  have ZAwA := hide (show w2.heap.size ≤ lowA ∧ hiwA ≤ wA.heap.size ∧ (gA < lowA ∨ hiwA ≤ gA) ∧ w2.heap.size ≤ gA ∧ gA < wA.heap.size from ⟨l1, l2, l3, lg5, pc5.lt⟩)
  have OW0 := hide o5
  have OWC0 := hide pc5
  clear o5 l1 l2 l3 pc5 lg5 b5
  obtain ⟨_, c17, c18, c19, c20⟩ := unhide Q_14
  go_wp2_with fail
  refine (unhide HTO (unhide HN) wA ((unhide HV).below (unhide B_13))).mono ?_
  rintro e w4 ⟨u, rfl, o4, b4⟩
  obtain ⟨D21, D22, D23, D24, hre⟩ := o4.pe.slices
  subst hre
  clear c17 c18 c19 c20
  have B_25 := hide (bl_st b4 (unhide B_13))
  have Q_26 := hide ((unhide Q_14).below b4)
  have P_27 := hide ((unhide P_15).below b4)
  have OW_28 := hide ((unhide OW0).below b4)
  have WC_29 := hide ((unhide OWC0).below b4)
  have Z30 := hide b4.size
  clear B_13 Q_14 P_15 OW0 OWC0
  have OX0 := hide o4
  clear o4 b4
  have ba : Below w4.heap.size w4 (w4.alloc (.cells #[.slice D21 p.q.length D22, .int .i64 p.s, .int .i64 p.e, .slice D23 p.i.length D24] 33)) := bl_al (Below.refl _ _)
  have C32 := hide (pc_new w4 (.slice D21 p.q.length D22) p.s p.e (.slice D23 p.i.length D24) 33)
  have Z33 : Hid ((w4.alloc (.cells #[.slice D21 p.q.length D22, .int .i64 p.s, .int .i64 p.e, .slice D23 p.i.length D24] 33)).heap.size = w4.heap.size + 1) := hide (by simp)
  have B_34 := hide (bl_st ba (unhide B_25))
  have Q_35 := hide ((unhide Q_26).below ba)
  have P_36 := hide ((unhide P_27).below ba)
  have OW_37 := hide ((unhide OW_28).below ba)
  have WC_38 := hide ((unhide WC_29).below ba)
  have OX_39 := hide ((unhide OX0).below ba)
  have Z40 := hide ba.size
  clear B_25 Q_26 P_27 OW_28 WC_29 OX0
  clear ba
  obtain ⟨_, c41, c42, c43, c44⟩ := unhide C32
  go_wp2
  generalize w4.alloc (.cells #[.slice D21 p.q.length D22, .int .i64 p.s, .int .i64 p.e, .slice D23 p.i.length D24] 33) = v31 at *
  clear c41 c42 c43 c44
  refine Code.wp_mono (Q := fun e aQ W5 => ∃ (X1 : Option Addr) (X2 : Nat) (X3 : Option Addr) (X4 : Nat) (u1 : Value) (gW : Nat), e = .normal ∧ aQ = { tmps := #[peA q p.s p.e i, frV f, Value.pointer (some { block := w.heap.size, off := 0 }), Value.pointer (some { block := w.heap.size + 1, off := 0 }), Value.bool false, Value.int IntKind.i64 zz, Value.pointer (some { block := gA, off := 0 }), Value.int IntKind.i64 c, Value.pointer (some { block := w4.heap.size, off := 0 }), .pointer (some ⟨gW, 0, none⟩), .int .i64 c, undef, undef, undef, undef, undef, Value.agg #[q, Value.int IntKind.i64 p.s, Value.int IntKind.i64 p.e, i], Value.int IntKind.i64 1048576, Value.int IntKind.i64 z, Value.int IntKind.i64 z, Value.bool (decide (z < 0)), Value.agg #[Value.int IntKind.i64 f.s, Value.int IntKind.i64 f.a, Value.bool f.h, Value.string f.b], Value.int IntKind.i64 z, Value.int IntKind.i64 zz, Value.int IntKind.i64 zz, Value.bool (decide (zz < 0)), Value.tuple #[peA (Value.slice A1 y.q.length A2) y.s y.e (Value.slice A3 y.i.length A4), Value.int IntKind.i64 c], peA q p.s p.e i, uuwA, frV f, frV f, Value.tuple #[peA (Value.slice A1 y.q.length A2) y.s y.e (Value.slice A3 y.i.length A4), Value.int IntKind.i64 c], peA (Value.slice A1 y.q.length A2) y.s y.e (Value.slice A3 y.i.length A4), Value.int IntKind.i64 c, Value.agg #[q, Value.int IntKind.i64 p.s, Value.int IntKind.i64 p.e, i], peA (Value.slice D21 p.q.length D22) p.s p.e (Value.slice D23 p.i.length D24), .tuple #[peA (.slice X1 y.q.length X2) y.s y.e (.slice X3 y.i.length X4), .int .i64 c], peA (.slice D21 p.q.length D22) p.s p.e (.slice D23 p.i.length D24), frV f, frV f, .tuple #[peA (.slice X1 y.q.length X2) y.s y.e (.slice X3 y.i.length X4), .int .i64 c], peA (.slice X1 y.q.length X2) y.s y.e (.slice X3 y.i.length X4), .int .i64 c, undef, undef, undef, undef, undef, undef, undef, undef, undef, undef, undef, undef, undef, undef, undef, undef, undef, undef, undef, undef, undef, undef, undef, undef, undef, undef, undef, undef, undef, undef, undef, undef, undef, undef, undef, undef, undef, undef, undef, undef, undef, undef, undef, undef, undef, undef, undef, undef, undef, undef, undef, undef, undef, undef, undef, undef, undef, undef, undef, undef, undef, undef, undef, undef, undef, undef], defers := [] } ∧ (∃ lo hi, peO lo hi W5 (peA (.slice X1 y.q.length X2) y.s y.e (.slice X3 y.i.length X4)) y ∧ v31.heap.size ≤ lo ∧ hi ≤ W5.heap.size ∧ (gW < lo ∨ hi ≤ gW)) ∧ PC gW (.slice X1 y.q.length X2) y.s y.e (.slice X3 y.i.length X4) W5 ∧ v31.heap.size ≤ gW ∧ Below v31.heap.size v31 W5) ?_ ?_
  rotate_left
  · refine wp_region_held (S := fun W' => Below v31.heap.size v31 W') (by kernel_rfl) ?_
    have hS0 : Below v31.heap.size v31 { v31 with drawn := v31.drawn + 1 } := below_drewN (Below.refl _ _) 1
    refine wpAnyH_take (i := 0) (oi := { dst := some 37, op := Op.load 33 (Operand.tmp 8), type := 33, pos := "exact.go:4278", after := #[], guard := none }) (v := ?_) rfl (by kernel_rfl) (by kernel_rfl) (by kernel_rfl) (fun _ _ _ h => by obtain ⟨_, _, _, _, _, _, h, _⟩ := h; cases h) (Or.inl ⟨by rfl, ?_⟩) hS0 ?_
    rotate_left
    · intro W hSw
      obtain ⟨_, c0, c1, c2, c3⟩ := (unhide Q_35).below hSw
      obtain ⟨_, d0, d1, d2, d3⟩ := (unhide P_36).below hSw
      obtain ⟨_, e0, e1, e2, e3⟩ := (unhide C32).below hSw
      go_simp
      try with_reducible rfl
    simp only [Act.put, List.setIfInBounds_toArray, List.set_cons_zero, List.set_cons_succ]
    refine wpAnyH_take (i := 1) (oi := { dst := some 38, op := Op.load 55 (Operand.tmp 3), type := 55, pos := "exact.go:4278", after := #[], guard := none }) (v := ?_) rfl (by kernel_rfl) (by kernel_rfl) (by kernel_rfl) (fun _ _ _ h => by obtain ⟨_, _, _, _, _, _, h, _⟩ := h; cases h) (Or.inl ⟨by rfl, ?_⟩) hS0 ?_
    rotate_left
    · intro W hSw
      obtain ⟨_, c0, c1, c2, c3⟩ := (unhide Q_35).below hSw
      obtain ⟨_, d0, d1, d2, d3⟩ := (unhide P_36).below hSw
      obtain ⟨_, e0, e1, e2, e3⟩ := (unhide C32).below hSw
      go_simp
      try with_reducible rfl
    simp only [Act.put, List.setIfInBounds_toArray, List.set_cons_zero, List.set_cons_succ]
    obtain ⟨v0, hv0⟩ : ∃ v0, v0 = ({ v31 with drawn := v31.drawn + 1 } : World) := ⟨_, rfl⟩
    have s0 : Below v31.heap.size v31 v0 := by rw [hv0]; exact hS0
    rw [← hv0]
    clear hv0 hS0
    refine wpAnyH_two (i := 2) (j := 7) (by kernel_rfl) ?_ ?_
    · refine wpOp_step (o := { dst := some 39, op := Op.call { callee := Callee.value (Operand.func 33), args := #[Operand.tmp 38], argTypes := #[55] }, type := 41, pos := "exact.go:4278", after := #[{ on := 1, ground := Ground.data }], guard := none }) rfl fun K' hK => step_enterW (by rfl) 33 #[frV f] (by go_simp) ((unhide HTF v0).mono ?_)
      rintro e v1 ⟨rfl, b⟩
      have s1 := bl_st b s0
      clear b
      refine ⟨_, rfl, hK _ _ ⟨s1, ?_⟩⟩
      simp only [Act.put, List.setIfInBounds_toArray, List.set_cons_zero, List.set_cons_succ]
      refine wpAnyH_two (i := 3) (j := 7) (by kernel_rfl) ?_ ?_
      · refine wpOp_step (o := { dst := some 40, op := Op.call { callee := Callee.value (Operand.func 18), args := #[Operand.tmp 37, Operand.tmp 39], argTypes := #[33, 41] }, type := 42, pos := "exact.go:4278", after := #[{ on := 0, ground := Ground.data }, { on := 2, ground := Ground.data }, { on := 2, ground := Ground.chain }], guard := none }) rfl fun K' hK => step_enterW (by rfl) 18 #[peA (.slice D21 p.q.length D22) p.s p.e (.slice D23 p.i.length D24), frV f] (by go_simp) ((unhide HIM (unhide HN) (peA (.slice D21 p.q.length D22) p.s p.e (.slice D23 p.i.length D24)) v1 ((unhide OX_39).below s1).pe).mono ?_)
        rintro e v2 ⟨r3, rfl, oR, b⟩
        have s2 := bl_st b s1
        obtain ⟨X1, X2, X3, X4, hre⟩ := oR.pe.slices
        subst hre
        have bR := b
        have oR : ∃ lo hi, peO lo hi v2 (peA (.slice X1 y.q.length X2) y.s y.e (.slice X3 y.i.length X4)) y ∧ v31.heap.size ≤ lo ∧ hi ≤ v2.heap.size := ⟨_, _, oR, s1.size, Nat.le_refl _⟩
        clear b
        refine ⟨_, rfl, hK _ _ ⟨s2, ?_⟩⟩
        simp only [Act.put, List.setIfInBounds_toArray, List.set_cons_zero, List.set_cons_succ]
        refine wpAnyH_take (i := 4) (oi := { dst := some 36, op := Op.move (Operand.tmp 40), type := 42, pos := "exact.go:4278", after := #[{ on := 3, ground := Ground.data }], guard := none }) (v := ?_) rfl (by kernel_rfl) (by kernel_rfl) (by kernel_rfl) (fun _ _ _ h => by obtain ⟨_, _, _, _, _, _, h, _⟩ := h; cases h) (Or.inl ⟨by rfl, ?_⟩) s2 ?_
        rotate_left
        · intro W hSw
          go_simp
          try with_reducible rfl
        simp only [Act.put, List.setIfInBounds_toArray, List.set_cons_zero, List.set_cons_succ]
        refine wpAnyH_take (i := 5) (oi := { dst := some 41, op := Op.extract (Operand.tmp 36) 0, type := 33, pos := "exact.go:4278", after := #[{ on := 4, ground := Ground.data }], guard := none }) (v := ?_) rfl (by kernel_rfl) (by kernel_rfl) (by kernel_rfl) (fun _ _ _ h => by obtain ⟨_, _, _, _, _, _, h, _⟩ := h; cases h) (Or.inl ⟨by rfl, ?_⟩) s2 ?_
        rotate_left
        · intro W hSw
          go_simp
          try with_reducible rfl
        simp only [Act.put, List.setIfInBounds_toArray, List.set_cons_zero, List.set_cons_succ]
        refine wpAnyH_take (i := 6) (oi := { dst := some 42, op := Op.extract (Operand.tmp 36) 1, type := 3, pos := "exact.go:4278", after := #[{ on := 4, ground := Ground.data }, { on := 8, ground := Ground.gcOnly Departure.lateStores }], guard := none }) (v := ?_) rfl (by kernel_rfl) (by kernel_rfl) (by kernel_rfl) (fun _ _ _ h => by obtain ⟨_, _, _, _, _, _, h, _⟩ := h; cases h) (Or.inl ⟨by rfl, ?_⟩) s2 ?_
        rotate_left
        · intro W hSw
          go_simp
          try with_reducible rfl
        simp only [Act.put, List.setIfInBounds_toArray, List.set_cons_zero, List.set_cons_succ]
        refine wpAnyH_one (i := 7) (by kernel_rfl) ?_
        have s3 : Below v31.heap.size v31 (v2.alloc (.cells #[.slice none 0 0, .int .i64 0, .int .i64 0, .slice none 0 0] 33)) := bl_al s2
        have b : Below v2.heap.size v2 (v2.alloc (.cells #[.slice none 0 0, .int .i64 0, .int .i64 0, .slice none 0 0] 33)) := bl_al (Below.refl _ _)
        have hW := heap_alloc_new v2 (.cells #[.slice none 0 0, .int .i64 0, .int .i64 0, .slice none 0 0] 33)
        have lW : v31.heap.size ≤ v2.heap.size := s2.size
        have oR : ∃ lo hi, peO lo hi (v2.alloc (.cells #[.slice none 0 0, .int .i64 0, .int .i64 0, .slice none 0 0] 33)) (peA (.slice X1 y.q.length X2) y.s y.e (.slice X3 y.i.length X4)) y ∧ v31.heap.size ≤ lo ∧ hi ≤ (v2.alloc (.cells #[.slice none 0 0, .int .i64 0, .int .i64 0, .slice none 0 0] 33)).heap.size ∧ (v2.heap.size < lo ∨ hi ≤ v2.heap.size) := by
          obtain ⟨lo, hi, oo, o1, o2⟩ := oR
          exact ⟨lo, hi, oo.below b, o1, Nat.le_trans o2 b.size, .inr o2⟩
        clear b
        refine wpOp_step (o := { dst := some 9, op := Op.alloc 33, type := 0, pos := "exact.go:4278", after := #[], guard := none }) rfl fun K' hK => step_valueW (by rfl) (.pointer (some ⟨v2.heap.size, 0, none⟩)) (v2.alloc (.cells #[.slice none 0 0, .int .i64 0, .int .i64 0, .slice none 0 0] 33)) (by go_simp) ?_
        refine hK _ _ ⟨s3, ?_⟩
        simp only [Act.put, List.setIfInBounds_toArray, List.set_cons_zero, List.set_cons_succ]
        obtain ⟨gW, hgW⟩ : ∃ gW, gW = v2.heap.size := ⟨_, rfl⟩
        rw [← hgW] at hW lW ⊢
        rw [← hgW] at oR
        generalize v2.alloc (.cells #[.slice none 0 0, .int .i64 0, .int .i64 0, .slice none 0 0] 33) = v3 at *
        clear hgW
        have LW := lone_setRow gW v3 #[.slice X1 y.q.length X2, .int .i64 y.s, .int .i64 y.e, .slice X3 y.i.length X4]
        have z5 : Below v31.heap.size v31 (v3.setRow gW #[.slice X1 y.q.length X2, .int .i64 y.s, .int .i64 y.e, .slice X3 y.i.length X4]) := below_setRow s3 lW
        refine wpAnyH_one (i := 8) (by kernel_rfl) ?_
        refine wpOp_step (o := { dst := none, op := Op.store 33 (Operand.tmp 9) (Operand.tmp 41), type := 0, pos := "exact.go:4278", after := #[{ on := 7, ground := Ground.data }, { on := 5, ground := Ground.data }, { on := 3, ground := Ground.chain }, { on := 0, ground := Ground.phase }, { on := 1, ground := Ground.phase }, { on := 2, ground := Ground.phase }, { on := 3, ground := Ground.phase }, { on := 4, ground := Ground.phase }, { on := 5, ground := Ground.phase }, { on := 6, ground := Ground.textOnly Departure.lateStores }, { on := 7, ground := Ground.phase }], guard := none }) rfl fun K' hK => step_storeRow (by rfl) 33 _ _ rfl gW #[.slice X1 y.q.length X2, .int .i64 y.s, .int .i64 y.e, .slice X3 y.i.length X4] rfl rfl 33 #[.slice none 0 0, .int .i64 0, .int .i64 0, .slice none 0 0] hW (by kernel_rfl) rfl (by kernel_rfl) ?_
        refine hK _ _ ⟨z5, ?_⟩
        try simp only [Act.put]
        refine wpAnyH_take (i := 9) (oi := { dst := some 10, op := Op.assign (Operand.tmp 42), type := 3, pos := "exact.go:4278", after := #[{ on := 6, ground := Ground.data }, { on := 8, ground := Ground.chain }, { on := 0, ground := Ground.phase }, { on := 1, ground := Ground.phase }, { on := 2, ground := Ground.phase }, { on := 3, ground := Ground.phase }, { on := 4, ground := Ground.phase }, { on := 5, ground := Ground.phase }, { on := 6, ground := Ground.phase }, { on := 7, ground := Ground.phase }, { on := 8, ground := Ground.phase }], guard := none }) (v := ?_) rfl (by kernel_rfl) (by kernel_rfl) (by kernel_rfl) (fun _ _ _ h => by obtain ⟨_, _, _, _, _, _, h, _⟩ := h; cases h) (Or.inl ⟨by rfl, ?_⟩) z5 ?_
        rotate_left
        · intro W hSw
          go_simp
          try with_reducible rfl
        simp only [Act.put, List.setIfInBounds_toArray, List.set_cons_zero, List.set_cons_succ]
        refine wpAnyH_done (by kernel_rfl) ?_ _
        refine ⟨X1, X2, X3, X4, undef, gW, rfl, rfl, ?_, pc_row (get_setRow hW), lW, z5⟩
        obtain ⟨lo, hi, oo, o1, o2, o3⟩ := oR
        exact ⟨lo, hi, oo.lone LW o3, o1, by rw [size_setRow]; exact o2, o3⟩
      · have s2 : Below v31.heap.size v31 (v1.alloc (.cells #[.slice none 0 0, .int .i64 0, .int .i64 0, .slice none 0 0] 33)) := bl_al s1
        have b : Below v1.heap.size v1 (v1.alloc (.cells #[.slice none 0 0, .int .i64 0, .int .i64 0, .slice none 0 0] 33)) := bl_al (Below.refl _ _)
        have hW := heap_alloc_new v1 (.cells #[.slice none 0 0, .int .i64 0, .int .i64 0, .slice none 0 0] 33)
        have lW : v31.heap.size ≤ v1.heap.size := s1.size
        clear b
        refine wpOp_step (o := { dst := some 9, op := Op.alloc 33, type := 0, pos := "exact.go:4278", after := #[], guard := none }) rfl fun K' hK => step_valueW (by rfl) (.pointer (some ⟨v1.heap.size, 0, none⟩)) (v1.alloc (.cells #[.slice none 0 0, .int .i64 0, .int .i64 0, .slice none 0 0] 33)) (by go_simp) ?_
        refine hK _ _ ⟨s2, ?_⟩
        simp only [Act.put, List.setIfInBounds_toArray, List.set_cons_zero, List.set_cons_succ]
        obtain ⟨gW, hgW⟩ : ∃ gW, gW = v1.heap.size := ⟨_, rfl⟩
        rw [← hgW] at hW lW ⊢
        generalize v1.alloc (.cells #[.slice none 0 0, .int .i64 0, .int .i64 0, .slice none 0 0] 33) = v2 at *
        clear hgW
        refine wpAnyH_one (i := 3) (by kernel_rfl) ?_
        refine wpOp_step (o := { dst := some 40, op := Op.call { callee := Callee.value (Operand.func 18), args := #[Operand.tmp 37, Operand.tmp 39], argTypes := #[33, 41] }, type := 42, pos := "exact.go:4278", after := #[{ on := 0, ground := Ground.data }, { on := 2, ground := Ground.data }, { on := 2, ground := Ground.chain }], guard := none }) rfl fun K' hK => step_enterW (by rfl) 18 #[peA (.slice D21 p.q.length D22) p.s p.e (.slice D23 p.i.length D24), frV f] (by go_simp) ((unhide HIM (unhide HN) (peA (.slice D21 p.q.length D22) p.s p.e (.slice D23 p.i.length D24)) v2 ((unhide OX_39).below s2).pe).mono ?_)
        rintro e v3 ⟨r3, rfl, oR, b⟩
        have s3 := bl_st b s2
        obtain ⟨X1, X2, X3, X4, hre⟩ := oR.pe.slices
        subst hre
        have bR := b
        have jW := (Array.getElem?_eq_some_iff.1 hW).1
        have oR : ∃ lo hi, peO lo hi v3 (peA (.slice X1 y.q.length X2) y.s y.e (.slice X3 y.i.length X4)) y ∧ v31.heap.size ≤ lo ∧ hi ≤ v3.heap.size ∧ (gW < lo ∨ hi ≤ gW) := ⟨_, _, oR, s2.size, Nat.le_refl _, .inl jW⟩
        have hW := (b.block _ (Array.getElem?_eq_some_iff.1 hW).1).trans hW
        clear b
        refine ⟨_, rfl, hK _ _ ⟨s3, ?_⟩⟩
        simp only [Act.put, List.setIfInBounds_toArray, List.set_cons_zero, List.set_cons_succ]
        refine wpAnyH_take (i := 4) (oi := { dst := some 36, op := Op.move (Operand.tmp 40), type := 42, pos := "exact.go:4278", after := #[{ on := 3, ground := Ground.data }], guard := none }) (v := ?_) rfl (by kernel_rfl) (by kernel_rfl) (by kernel_rfl) (fun _ _ _ h => by obtain ⟨_, _, _, _, _, _, h, _⟩ := h; cases h) (Or.inl ⟨by rfl, ?_⟩) s3 ?_
        rotate_left
        · intro W hSw
          go_simp
          try with_reducible rfl
        simp only [Act.put, List.setIfInBounds_toArray, List.set_cons_zero, List.set_cons_succ]
        refine wpAnyH_take (i := 5) (oi := { dst := some 41, op := Op.extract (Operand.tmp 36) 0, type := 33, pos := "exact.go:4278", after := #[{ on := 4, ground := Ground.data }], guard := none }) (v := ?_) rfl (by kernel_rfl) (by kernel_rfl) (by kernel_rfl) (fun _ _ _ h => by obtain ⟨_, _, _, _, _, _, h, _⟩ := h; cases h) (Or.inl ⟨by rfl, ?_⟩) s3 ?_
        rotate_left
        · intro W hSw
          go_simp
          try with_reducible rfl
        simp only [Act.put, List.setIfInBounds_toArray, List.set_cons_zero, List.set_cons_succ]
        refine wpAnyH_take (i := 6) (oi := { dst := some 42, op := Op.extract (Operand.tmp 36) 1, type := 3, pos := "exact.go:4278", after := #[{ on := 4, ground := Ground.data }, { on := 8, ground := Ground.gcOnly Departure.lateStores }], guard := none }) (v := ?_) rfl (by kernel_rfl) (by kernel_rfl) (by kernel_rfl) (fun _ _ _ h => by obtain ⟨_, _, _, _, _, _, h, _⟩ := h; cases h) (Or.inl ⟨by rfl, ?_⟩) s3 ?_
        rotate_left
        · intro W hSw
          go_simp
          try with_reducible rfl
        simp only [Act.put, List.setIfInBounds_toArray, List.set_cons_zero, List.set_cons_succ]
        have LW := lone_setRow gW v3 #[.slice X1 y.q.length X2, .int .i64 y.s, .int .i64 y.e, .slice X3 y.i.length X4]
        have z5 : Below v31.heap.size v31 (v3.setRow gW #[.slice X1 y.q.length X2, .int .i64 y.s, .int .i64 y.e, .slice X3 y.i.length X4]) := below_setRow s3 lW
        refine wpAnyH_one (i := 8) (by kernel_rfl) ?_
        refine wpOp_step (o := { dst := none, op := Op.store 33 (Operand.tmp 9) (Operand.tmp 41), type := 0, pos := "exact.go:4278", after := #[{ on := 7, ground := Ground.data }, { on := 5, ground := Ground.data }, { on := 3, ground := Ground.chain }, { on := 0, ground := Ground.phase }, { on := 1, ground := Ground.phase }, { on := 2, ground := Ground.phase }, { on := 3, ground := Ground.phase }, { on := 4, ground := Ground.phase }, { on := 5, ground := Ground.phase }, { on := 6, ground := Ground.textOnly Departure.lateStores }, { on := 7, ground := Ground.phase }], guard := none }) rfl fun K' hK => step_storeRow (by rfl) 33 _ _ rfl gW #[.slice X1 y.q.length X2, .int .i64 y.s, .int .i64 y.e, .slice X3 y.i.length X4] rfl rfl 33 #[.slice none 0 0, .int .i64 0, .int .i64 0, .slice none 0 0] hW (by kernel_rfl) rfl (by kernel_rfl) ?_
        refine hK _ _ ⟨z5, ?_⟩
        try simp only [Act.put]
        refine wpAnyH_take (i := 9) (oi := { dst := some 10, op := Op.assign (Operand.tmp 42), type := 3, pos := "exact.go:4278", after := #[{ on := 6, ground := Ground.data }, { on := 8, ground := Ground.chain }, { on := 0, ground := Ground.phase }, { on := 1, ground := Ground.phase }, { on := 2, ground := Ground.phase }, { on := 3, ground := Ground.phase }, { on := 4, ground := Ground.phase }, { on := 5, ground := Ground.phase }, { on := 6, ground := Ground.phase }, { on := 7, ground := Ground.phase }, { on := 8, ground := Ground.phase }], guard := none }) (v := ?_) rfl (by kernel_rfl) (by kernel_rfl) (by kernel_rfl) (fun _ _ _ h => by obtain ⟨_, _, _, _, _, _, h, _⟩ := h; cases h) (Or.inl ⟨by rfl, ?_⟩) z5 ?_
        rotate_left
        · intro W hSw
          go_simp
          try with_reducible rfl
        simp only [Act.put, List.setIfInBounds_toArray, List.set_cons_zero, List.set_cons_succ]
        refine wpAnyH_done (by kernel_rfl) ?_ _
        refine ⟨X1, X2, X3, X4, undef, gW, rfl, rfl, ?_, pc_row (get_setRow hW), lW, z5⟩
        obtain ⟨lo, hi, oo, o1, o2, o3⟩ := oR
        exact ⟨lo, hi, oo.lone LW o3, o1, by rw [size_setRow]; exact o2, o3⟩
    · have s1 : Below v31.heap.size v31 (v0.alloc (.cells #[.slice none 0 0, .int .i64 0, .int .i64 0, .slice none 0 0] 33)) := bl_al s0
      have b : Below v0.heap.size v0 (v0.alloc (.cells #[.slice none 0 0, .int .i64 0, .int .i64 0, .slice none 0 0] 33)) := bl_al (Below.refl _ _)
      have hW := heap_alloc_new v0 (.cells #[.slice none 0 0, .int .i64 0, .int .i64 0, .slice none 0 0] 33)
      have lW : v31.heap.size ≤ v0.heap.size := s0.size
      clear b
      refine wpOp_step (o := { dst := some 9, op := Op.alloc 33, type := 0, pos := "exact.go:4278", after := #[], guard := none }) rfl fun K' hK => step_valueW (by rfl) (.pointer (some ⟨v0.heap.size, 0, none⟩)) (v0.alloc (.cells #[.slice none 0 0, .int .i64 0, .int .i64 0, .slice none 0 0] 33)) (by go_simp) ?_
      refine hK _ _ ⟨s1, ?_⟩
      simp only [Act.put, List.setIfInBounds_toArray, List.set_cons_zero, List.set_cons_succ]
      obtain ⟨gW, hgW⟩ : ∃ gW, gW = v0.heap.size := ⟨_, rfl⟩
      rw [← hgW] at hW lW ⊢
      generalize v0.alloc (.cells #[.slice none 0 0, .int .i64 0, .int .i64 0, .slice none 0 0] 33) = v1 at *
      clear hgW
      refine wpAnyH_one (i := 2) (by kernel_rfl) ?_
      refine wpOp_step (o := { dst := some 39, op := Op.call { callee := Callee.value (Operand.func 33), args := #[Operand.tmp 38], argTypes := #[55] }, type := 41, pos := "exact.go:4278", after := #[{ on := 1, ground := Ground.data }], guard := none }) rfl fun K' hK => step_enterW (by rfl) 33 #[frV f] (by go_simp) ((unhide HTF v1).mono ?_)
      rintro e v2 ⟨rfl, b⟩
      have s2 := bl_st b s1
      have hW := (b.block _ (Array.getElem?_eq_some_iff.1 hW).1).trans hW
      clear b
      refine ⟨_, rfl, hK _ _ ⟨s2, ?_⟩⟩
      simp only [Act.put, List.setIfInBounds_toArray, List.set_cons_zero, List.set_cons_succ]
      refine wpAnyH_one (i := 3) (by kernel_rfl) ?_
      refine wpOp_step (o := { dst := some 40, op := Op.call { callee := Callee.value (Operand.func 18), args := #[Operand.tmp 37, Operand.tmp 39], argTypes := #[33, 41] }, type := 42, pos := "exact.go:4278", after := #[{ on := 0, ground := Ground.data }, { on := 2, ground := Ground.data }, { on := 2, ground := Ground.chain }], guard := none }) rfl fun K' hK => step_enterW (by rfl) 18 #[peA (.slice D21 p.q.length D22) p.s p.e (.slice D23 p.i.length D24), frV f] (by go_simp) ((unhide HIM (unhide HN) (peA (.slice D21 p.q.length D22) p.s p.e (.slice D23 p.i.length D24)) v2 ((unhide OX_39).below s2).pe).mono ?_)
      rintro e v3 ⟨r3, rfl, oR, b⟩
      have s3 := bl_st b s2
      obtain ⟨X1, X2, X3, X4, hre⟩ := oR.pe.slices
      subst hre
      have bR := b
      have jW := (Array.getElem?_eq_some_iff.1 hW).1
      have oR : ∃ lo hi, peO lo hi v3 (peA (.slice X1 y.q.length X2) y.s y.e (.slice X3 y.i.length X4)) y ∧ v31.heap.size ≤ lo ∧ hi ≤ v3.heap.size ∧ (gW < lo ∨ hi ≤ gW) := ⟨_, _, oR, s2.size, Nat.le_refl _, .inl jW⟩
      have hW := (b.block _ (Array.getElem?_eq_some_iff.1 hW).1).trans hW
      clear b
      refine ⟨_, rfl, hK _ _ ⟨s3, ?_⟩⟩
      simp only [Act.put, List.setIfInBounds_toArray, List.set_cons_zero, List.set_cons_succ]
      refine wpAnyH_take (i := 4) (oi := { dst := some 36, op := Op.move (Operand.tmp 40), type := 42, pos := "exact.go:4278", after := #[{ on := 3, ground := Ground.data }], guard := none }) (v := ?_) rfl (by kernel_rfl) (by kernel_rfl) (by kernel_rfl) (fun _ _ _ h => by obtain ⟨_, _, _, _, _, _, h, _⟩ := h; cases h) (Or.inl ⟨by rfl, ?_⟩) s3 ?_
      rotate_left
      · intro W hSw
        go_simp
        try with_reducible rfl
      simp only [Act.put, List.setIfInBounds_toArray, List.set_cons_zero, List.set_cons_succ]
      refine wpAnyH_take (i := 5) (oi := { dst := some 41, op := Op.extract (Operand.tmp 36) 0, type := 33, pos := "exact.go:4278", after := #[{ on := 4, ground := Ground.data }], guard := none }) (v := ?_) rfl (by kernel_rfl) (by kernel_rfl) (by kernel_rfl) (fun _ _ _ h => by obtain ⟨_, _, _, _, _, _, h, _⟩ := h; cases h) (Or.inl ⟨by rfl, ?_⟩) s3 ?_
      rotate_left
      · intro W hSw
        go_simp
        try with_reducible rfl
      simp only [Act.put, List.setIfInBounds_toArray, List.set_cons_zero, List.set_cons_succ]
      refine wpAnyH_take (i := 6) (oi := { dst := some 42, op := Op.extract (Operand.tmp 36) 1, type := 3, pos := "exact.go:4278", after := #[{ on := 4, ground := Ground.data }, { on := 8, ground := Ground.gcOnly Departure.lateStores }], guard := none }) (v := ?_) rfl (by kernel_rfl) (by kernel_rfl) (by kernel_rfl) (fun _ _ _ h => by obtain ⟨_, _, _, _, _, _, h, _⟩ := h; cases h) (Or.inl ⟨by rfl, ?_⟩) s3 ?_
      rotate_left
      · intro W hSw
        go_simp
        try with_reducible rfl
      simp only [Act.put, List.setIfInBounds_toArray, List.set_cons_zero, List.set_cons_succ]
      have LW := lone_setRow gW v3 #[.slice X1 y.q.length X2, .int .i64 y.s, .int .i64 y.e, .slice X3 y.i.length X4]
      have z5 : Below v31.heap.size v31 (v3.setRow gW #[.slice X1 y.q.length X2, .int .i64 y.s, .int .i64 y.e, .slice X3 y.i.length X4]) := below_setRow s3 lW
      refine wpAnyH_one (i := 8) (by kernel_rfl) ?_
      refine wpOp_step (o := { dst := none, op := Op.store 33 (Operand.tmp 9) (Operand.tmp 41), type := 0, pos := "exact.go:4278", after := #[{ on := 7, ground := Ground.data }, { on := 5, ground := Ground.data }, { on := 3, ground := Ground.chain }, { on := 0, ground := Ground.phase }, { on := 1, ground := Ground.phase }, { on := 2, ground := Ground.phase }, { on := 3, ground := Ground.phase }, { on := 4, ground := Ground.phase }, { on := 5, ground := Ground.phase }, { on := 6, ground := Ground.textOnly Departure.lateStores }, { on := 7, ground := Ground.phase }], guard := none }) rfl fun K' hK => step_storeRow (by rfl) 33 _ _ rfl gW #[.slice X1 y.q.length X2, .int .i64 y.s, .int .i64 y.e, .slice X3 y.i.length X4] rfl rfl 33 #[.slice none 0 0, .int .i64 0, .int .i64 0, .slice none 0 0] hW (by kernel_rfl) rfl (by kernel_rfl) ?_
      refine hK _ _ ⟨z5, ?_⟩
      try simp only [Act.put]
      refine wpAnyH_take (i := 9) (oi := { dst := some 10, op := Op.assign (Operand.tmp 42), type := 3, pos := "exact.go:4278", after := #[{ on := 6, ground := Ground.data }, { on := 8, ground := Ground.chain }, { on := 0, ground := Ground.phase }, { on := 1, ground := Ground.phase }, { on := 2, ground := Ground.phase }, { on := 3, ground := Ground.phase }, { on := 4, ground := Ground.phase }, { on := 5, ground := Ground.phase }, { on := 6, ground := Ground.phase }, { on := 7, ground := Ground.phase }, { on := 8, ground := Ground.phase }], guard := none }) (v := ?_) rfl (by kernel_rfl) (by kernel_rfl) (by kernel_rfl) (fun _ _ _ h => by obtain ⟨_, _, _, _, _, _, h, _⟩ := h; cases h) (Or.inl ⟨by rfl, ?_⟩) z5 ?_
      rotate_left
      · intro W hSw
        go_simp
        try with_reducible rfl
      simp only [Act.put, List.setIfInBounds_toArray, List.set_cons_zero, List.set_cons_succ]
      refine wpAnyH_done (by kernel_rfl) ?_ _
      refine ⟨X1, X2, X3, X4, undef, gW, rfl, rfl, ?_, pc_row (get_setRow hW), lW, z5⟩
      obtain ⟨lo, hi, oo, o1, o2, o3⟩ := oR
      exact ⟨lo, hi, oo.lone LW o3, o1, by rw [size_setRow]; exact o2, o3⟩
  rintro e1 aQ wB ⟨B1, B2, B3, B4, uuwB, gB, rfl, rfl, ⟨lowB, hiwB, o5, l1, l2, l3⟩, pc5, lg5, b5⟩
  have B_45 := hide (bl_st b5 (unhide B_34))
  have Q_46 := hide ((unhide Q_35).below b5)
  have P_47 := hide ((unhide P_36).below b5)
  have OW_48 := hide ((unhide OW_37).below b5)
  have WC_49 := hide ((unhide WC_38).below b5)
  have OX_50 := hide ((unhide OX_39).below b5)
  have XC_51 := hide ((unhide C32).below b5)
  have Z52 := hide b5.size
  clear B_34 Q_35 P_36 OW_37 WC_38 OX_39 C32
  have ZAwB := hide (show v31.heap.size ≤ lowB ∧ hiwB ≤ wB.heap.size ∧ (gB < lowB ∨ hiwB ≤ gB) ∧ v31.heap.size ≤ gB ∧ gB < wB.heap.size from ⟨l1, l2, l3, lg5, pc5.lt⟩)
  have OG0 := hide o5
  have OGC0 := hide pc5
  clear o5 l1 l2 l3 pc5 lg5 b5
  obtain ⟨_, c53, c54, c55, c56⟩ := unhide OGC0
  obtain ⟨_, c57, c58, c59, c60⟩ := unhide WC_49
  go_wp2_with fail
  refine (unhide HEY _ _ wB (unhide OG0).pe (unhide OW_48).pe).mono ?_
  rintro e w6 ⟨rfl, b6⟩
  clear c53 c54 c55 c56 c57 c58 c59 c60
  have B_61 := hide (bl_st b6 (unhide B_45))
  have Q_62 := hide ((unhide Q_46).below b6)
  have P_63 := hide ((unhide P_47).below b6)
  have OW_64 := hide ((unhide OW_48).below b6)
  have WC_65 := hide ((unhide WC_49).below b6)
  have OX_66 := hide ((unhide OX_50).below b6)
  have XC_67 := hide ((unhide XC_51).below b6)
  have OG_68 := hide ((unhide OG0).below b6)
  have GC_69 := hide ((unhide OGC0).below b6)
  have Z70 := hide b6.size
  clear B_45 Q_46 P_47 OW_48 WC_49 OX_50 XC_51 OG0 OGC0
  clear b6
  go_wp2
  refine wp_region_held (S := fun W' => Below w6.heap.size w6 W') (by kernel_rfl) ?_
  have hS0 : Below w6.heap.size w6 { w6 with drawn := w6.drawn + 1 } := below_drewN (Below.refl _ _) 1
  refine wpAnyH_take (i := 0) (oi := { dst := some 52, op := Op.load 33 (Operand.tmp 8), type := 33, pos := "exact.go:4282", after := #[], guard := none }) (v := ?_) rfl (by kernel_rfl) (by kernel_rfl) (by kernel_rfl) (fun _ _ _ h => h) (Or.inl ⟨by rfl, ?_⟩) hS0 ?_
  rotate_left
  · intro W hSw
    obtain ⟨_, c0, c1, c2, c3⟩ := (unhide Q_62).below hSw
    obtain ⟨_, d0, d1, d2, d3⟩ := (unhide XC_67).below hSw
    go_simp
    try with_reducible rfl
  simp only [Act.put, List.setIfInBounds_toArray, List.set_cons_zero, List.set_cons_succ]
  refine wpAnyH_take (i := 1) (oi := { dst := some 53, op := Op.load 48 (Operand.tmp 2), type := 48, pos := "exact.go:4282", after := #[], guard := none }) (v := ?_) rfl (by kernel_rfl) (by kernel_rfl) (by kernel_rfl) (fun _ _ _ h => h) (Or.inl ⟨by rfl, ?_⟩) hS0 ?_
  rotate_left
  · intro W hSw
    obtain ⟨_, c0, c1, c2, c3⟩ := (unhide Q_62).below hSw
    obtain ⟨_, d0, d1, d2, d3⟩ := (unhide XC_67).below hSw
    go_simp
    try with_reducible rfl
  simp only [Act.put, List.setIfInBounds_toArray, List.set_cons_zero, List.set_cons_succ]
  refine wpAnyH_one (i := 2) (by kernel_rfl) ?_
  refine wpOp_step (o := { dst := some 54, op := Op.call { callee := Callee.value (Operand.func 27), args := #[Operand.tmp 53], argTypes := #[48] }, type := 33, pos := "exact.go:4282", after := #[{ on := 1, ground := Ground.data }], guard := none }) rfl fun K' hK => step_enterW (by rfl) 27 #[peA q p.s p.e i] (by go_simp) ((unhide HTO (unhide HN) _ (((unhide HV).below (unhide B_61)).below hS0)).mono ?_)
  rintro e w7 ⟨u7, rfl, o7, b7⟩
  have s7 := bl_st b7 hS0
  have U7 := hide ((unhide OX_66).below s7).pe
  have V7 := hide o7.pe
  clear b7 o7
  refine ⟨_, rfl, hK _ _ ⟨s7, ?_⟩⟩
  simp only [Act.put, List.setIfInBounds_toArray, List.set_cons_zero, List.set_cons_succ]
  refine wpAnyH_one (i := 3) (by kernel_rfl) ?_
  refine wpOp_step (o := { dst := some 55, op := Op.call { callee := Callee.value (Operand.func 28), args := #[Operand.tmp 52, Operand.tmp 54], argTypes := #[33, 33] }, type := 4, pos := "exact.go:4282", after := #[{ on := 0, ground := Ground.data }, { on := 2, ground := Ground.data }, { on := 2, ground := Ground.chain }], guard := none }) rfl fun K' hK => step_enterW (by rfl) 28 #[peA (.slice D21 p.q.length D22) p.s p.e (.slice D23 p.i.length D24), u7] (by go_simp) ((unhide HEQ (unhide HN) _ _ _ (unhide U7) (unhide V7)).mono ?_)
  rintro e w8 ⟨rfl, b8⟩
  have s8 := bl_st b8 s7
  clear b8
  refine ⟨_, rfl, hK _ _ ⟨s8, ?_⟩⟩
  simp only [Act.put, List.setIfInBounds_toArray, List.set_cons_zero, List.set_cons_succ]
  refine wpAnyH_take (i := 4) (oi := { dst := some 56, op := Op.unOp UnOp.not 4 (Operand.tmp 55), type := 4, pos := "exact.go:4282", after := #[{ on := 3, ground := Ground.data }], guard := none }) (v := ?_) rfl (by kernel_rfl) (by kernel_rfl) (by kernel_rfl) (fun _ _ _ h => h) (Or.inl ⟨by rfl, ?_⟩) s8 ?_
  rotate_left
  · intro W hSw
    go_simp
    try with_reducible rfl
  simp only [Act.put, List.setIfInBounds_toArray, List.set_cons_zero, List.set_cons_succ]
  refine wpAnyH_done (by kernel_rfl) ?_ _
  have B_71 := hide (bl_st s8 (unhide B_61))
  have Q_72 := hide ((unhide Q_62).below s8)
  have P_73 := hide ((unhide P_63).below s8)
  have OW_74 := hide ((unhide OW_64).below s8)
  have WC_75 := hide ((unhide WC_65).below s8)
  have OX_76 := hide ((unhide OX_66).below s8)
  have XC_77 := hide ((unhide XC_67).below s8)
  have OG_78 := hide ((unhide OG_68).below s8)
  have GC_79 := hide ((unhide GC_69).below s8)
  have Z80 := hide s8.size
  clear B_61 Q_62 P_63 OW_64 WC_65 OX_66 XC_67 OG_68 GC_69
  clear s8 s7 hS0 U7 V7
  obtain ⟨kx, kx0, hmx⟩ := unhide HMX2
  have HMX3 := hide hmx
  clear HMX2 hmx
  obtain ⟨_, c81, c82, c83, c84⟩ := unhide XC_77
  go_wp2_with fail
  refine (unhide HMX3 _ _ _ w8 (unhide OX_76) (by have := unhide SZ; have := unhide Z4; have := unhide Z12; have := unhide Z16; have := unhide ZAwA; have := unhide Z30; have := unhide Z40; have := unhide Z33; have := unhide Z52; have := unhide ZAwB; have := unhide Z70; have := unhide Z80; omega)).mono ?_
  rintro e w9 ⟨rfl, o9, t9⟩
  clear c81 c82 c83 c84
  clear o9
  have B_85 := hide (belowR (unhide B_71) t9 (by have := unhide SZ; have := unhide Z4; have := unhide Z12; have := unhide Z16; have := unhide ZAwA; have := unhide Z30; have := unhide Z40; have := unhide Z33; have := unhide Z52; have := unhide ZAwB; have := unhide Z70; have := unhide Z80; omega) (by have := unhide SZ; have := unhide Z4; have := unhide Z12; have := unhide Z16; have := unhide ZAwA; have := unhide Z30; have := unhide Z40; have := unhide Z33; have := unhide Z52; have := unhide ZAwB; have := unhide Z70; have := unhide Z80; omega))
  have Q_86 := hide ((unhide Q_72).touchR t9 (by have := unhide SZ; have := unhide Z4; have := unhide Z12; have := unhide Z16; have := unhide ZAwA; have := unhide Z30; have := unhide Z40; have := unhide Z33; have := unhide Z52; have := unhide ZAwB; have := unhide Z70; have := unhide Z80; omega))
  have P_87 := hide ((unhide P_73).touchR t9 (by have := unhide SZ; have := unhide Z4; have := unhide Z12; have := unhide Z16; have := unhide ZAwA; have := unhide Z30; have := unhide Z40; have := unhide Z33; have := unhide Z52; have := unhide ZAwB; have := unhide Z70; have := unhide Z80; omega))
  have OW_88 := hide ((unhide OW_74).touchR t9 (by have := unhide SZ; have := unhide Z4; have := unhide Z12; have := unhide Z16; have := unhide ZAwA; have := unhide Z30; have := unhide Z40; have := unhide Z33; have := unhide Z52; have := unhide ZAwB; have := unhide Z70; have := unhide Z80; omega))
  have WC_89 := hide ((unhide WC_75).touchR t9 (by have := unhide SZ; have := unhide Z4; have := unhide Z12; have := unhide Z16; have := unhide ZAwA; have := unhide Z30; have := unhide Z40; have := unhide Z33; have := unhide Z52; have := unhide ZAwB; have := unhide Z70; have := unhide Z80; omega))
  have XC_90 := hide ((unhide XC_77).touchR t9 (by have := unhide SZ; have := unhide Z4; have := unhide Z12; have := unhide Z16; have := unhide ZAwA; have := unhide Z30; have := unhide Z40; have := unhide Z33; have := unhide Z52; have := unhide ZAwB; have := unhide Z70; have := unhide Z80; omega))
  have OG_91 := hide ((unhide OG_78).touchR t9 (by have := unhide SZ; have := unhide Z4; have := unhide Z12; have := unhide Z16; have := unhide ZAwA; have := unhide Z30; have := unhide Z40; have := unhide Z33; have := unhide Z52; have := unhide ZAwB; have := unhide Z70; have := unhide Z80; omega))
  have GC_92 := hide ((unhide GC_79).touchR t9 (by have := unhide SZ; have := unhide Z4; have := unhide Z12; have := unhide Z16; have := unhide ZAwA; have := unhide Z30; have := unhide Z40; have := unhide Z33; have := unhide Z52; have := unhide ZAwB; have := unhide Z70; have := unhide Z80; omega))
  have Z93 := hide t9.size
  clear B_71 Q_72 P_73 OW_74 WC_75 XC_77 OG_78 GC_79
  clear t9
  obtain ⟨_, c94, c95, c96, c97⟩ := unhide GC_92
  obtain ⟨_, c98, c99, c100, c101⟩ := unhide WC_89
  go_wp2_with fail
  refine (unhide HEY _ _ w9 (unhide OG_91).pe (unhide OW_88).pe).mono ?_
  rintro e w10 ⟨rfl, b10⟩
  clear c94 c95 c96 c97 c98 c99 c100 c101
  have B_102 := hide (bl_st b10 (unhide B_85))
  have Q_103 := hide ((unhide Q_86).below b10)
  have P_104 := hide ((unhide P_87).below b10)
  have OW_105 := hide ((unhide OW_88).below b10)
  have WC_106 := hide ((unhide WC_89).below b10)
  have XC_107 := hide ((unhide XC_90).below b10)
  have OG_108 := hide ((unhide OG_91).below b10)
  have GC_109 := hide ((unhide GC_92).below b10)
  have Z110 := hide b10.size
  clear B_85 Q_86 P_87 OW_88 WC_89 XC_90 OG_91 GC_92
  clear b10
  obtain ⟨_, c111, c112, c113, c114⟩ := unhide GC_109
  go_wp2_with fail
  refine (unhide HMY _ _ _ w10 (unhide OG_108) (by have := unhide SZ; have := unhide Z4; have := unhide Z12; have := unhide Z16; have := unhide ZAwA; have := unhide Z30; have := unhide Z40; have := unhide Z33; have := unhide Z52; have := unhide ZAwB; have := unhide Z70; have := unhide Z80; have := unhide Z93; have := unhide Z110; omega)).mono ?_
  rintro e w11 ⟨rfl, o11, t11⟩
  clear c111 c112 c113 c114
  have B_115 := hide (belowR (unhide B_102) t11 (by have := unhide SZ; have := unhide Z4; have := unhide Z12; have := unhide Z16; have := unhide ZAwA; have := unhide Z30; have := unhide Z40; have := unhide Z33; have := unhide Z52; have := unhide ZAwB; have := unhide Z70; have := unhide Z80; have := unhide Z93; have := unhide Z110; omega) (by have := unhide SZ; have := unhide Z4; have := unhide Z12; have := unhide Z16; have := unhide ZAwA; have := unhide Z30; have := unhide Z40; have := unhide Z33; have := unhide Z52; have := unhide ZAwB; have := unhide Z70; have := unhide Z80; have := unhide Z93; have := unhide Z110; omega))
  have Q_116 := hide ((unhide Q_103).touchR t11 (by have := unhide SZ; have := unhide Z4; have := unhide Z12; have := unhide Z16; have := unhide ZAwA; have := unhide Z30; have := unhide Z40; have := unhide Z33; have := unhide Z52; have := unhide ZAwB; have := unhide Z70; have := unhide Z80; have := unhide Z93; have := unhide Z110; omega))
  have P_117 := hide ((unhide P_104).touchR t11 (by have := unhide SZ; have := unhide Z4; have := unhide Z12; have := unhide Z16; have := unhide ZAwA; have := unhide Z30; have := unhide Z40; have := unhide Z33; have := unhide Z52; have := unhide ZAwB; have := unhide Z70; have := unhide Z80; have := unhide Z93; have := unhide Z110; omega))
  have OW_118 := hide ((unhide OW_105).touchR t11 (by have := unhide SZ; have := unhide Z4; have := unhide Z12; have := unhide Z16; have := unhide ZAwA; have := unhide Z30; have := unhide Z40; have := unhide Z33; have := unhide Z52; have := unhide ZAwB; have := unhide Z70; have := unhide Z80; have := unhide Z93; have := unhide Z110; omega))
  have WC_119 := hide ((unhide WC_106).touchR t11 (by have := unhide SZ; have := unhide Z4; have := unhide Z12; have := unhide Z16; have := unhide ZAwA; have := unhide Z30; have := unhide Z40; have := unhide Z33; have := unhide Z52; have := unhide ZAwB; have := unhide Z70; have := unhide Z80; have := unhide Z93; have := unhide Z110; omega))
  have XC_120 := hide ((unhide XC_107).touchR t11 (by have := unhide SZ; have := unhide Z4; have := unhide Z12; have := unhide Z16; have := unhide ZAwA; have := unhide Z30; have := unhide Z40; have := unhide Z33; have := unhide Z52; have := unhide ZAwB; have := unhide Z70; have := unhide Z80; have := unhide Z93; have := unhide Z110; omega))
  have GC_121 := hide ((unhide GC_109).touchR t11 (by have := unhide SZ; have := unhide Z4; have := unhide Z12; have := unhide Z16; have := unhide ZAwA; have := unhide Z30; have := unhide Z40; have := unhide Z33; have := unhide Z52; have := unhide ZAwB; have := unhide Z70; have := unhide Z80; have := unhide Z93; have := unhide Z110; omega))
  have Z122 := hide t11.size
  clear B_102 Q_103 P_104 OW_105 WC_106 XC_107 GC_109
  have OG11 := hide o11
  clear o11 t11
  obtain ⟨_, c123, c124, c125, c126⟩ := unhide GC_121
  go_wp2_with fail
  refine (unhide HHY _ w11 (unhide OG11).pe).mono ?_
  rintro e w12 ⟨rfl, b12⟩
  clear c123 c124 c125 c126
  have B_127 := hide (bl_st b12 (unhide B_115))
  have Q_128 := hide ((unhide Q_116).below b12)
  have P_129 := hide ((unhide P_117).below b12)
  have OW_130 := hide ((unhide OW_118).below b12)
  have WC_131 := hide ((unhide WC_119).below b12)
  have XC_132 := hide ((unhide XC_120).below b12)
  have GC_133 := hide ((unhide GC_121).below b12)
  have OG_134 := hide ((unhide OG11).below b12)
  have Z135 := hide b12.size
  clear B_115 Q_116 P_117 OW_118 WC_119 XC_120 GC_121 OG11
  clear b12
  go_wp2
  refine Code.wp_mono (Q := fun e aQ W5 => ∃ (X1 : Option Addr) (X2 : Nat) (X3 : Option Addr) (X4 : Nat) (u1 : Value) (gW : Nat), e = .normal ∧ aQ = { tmps := #[peA q p.s p.e i, frV f, Value.pointer (some { block := w.heap.size, off := 0 }), Value.pointer (some { block := w.heap.size + 1, off := 0 }), Value.bool false, Value.int IntKind.i64 zz, Value.pointer (some { block := gA, off := 0 }), Value.int IntKind.i64 c, Value.pointer (some { block := w4.heap.size, off := 0 }), Value.pointer (some { block := gB, off := 0 }), Value.int IntKind.i64 c, Value.int IntKind.i64 kx, Value.int IntKind.i64 ↑km, Value.int IntKind.i64 ↑km, .pointer (some ⟨gW, 0, none⟩), .int .i64 c, Value.agg #[q, Value.int IntKind.i64 p.s, Value.int IntKind.i64 p.e, i], Value.int IntKind.i64 1048576, Value.int IntKind.i64 z, Value.int IntKind.i64 z, Value.bool (decide (z < 0)), Value.agg #[Value.int IntKind.i64 f.s, Value.int IntKind.i64 f.a, Value.bool f.h, Value.string f.b], Value.int IntKind.i64 z, Value.int IntKind.i64 zz, Value.int IntKind.i64 zz, Value.bool (decide (zz < 0)), Value.tuple #[peA (Value.slice A1 y.q.length A2) y.s y.e (Value.slice A3 y.i.length A4), Value.int IntKind.i64 c], peA q p.s p.e i, uuwA, frV f, frV f, Value.tuple #[peA (Value.slice A1 y.q.length A2) y.s y.e (Value.slice A3 y.i.length A4), Value.int IntKind.i64 c], peA (Value.slice A1 y.q.length A2) y.s y.e (Value.slice A3 y.i.length A4), Value.int IntKind.i64 c, Value.agg #[q, Value.int IntKind.i64 p.s, Value.int IntKind.i64 p.e, i], peA (Value.slice D21 p.q.length D22) p.s p.e (Value.slice D23 p.i.length D24), Value.tuple #[peA (Value.slice B1 y.q.length B2) y.s y.e (Value.slice B3 y.i.length B4), Value.int IntKind.i64 c], peA (Value.slice D21 p.q.length D22) p.s p.e (Value.slice D23 p.i.length D24), frV f, frV f, Value.tuple #[peA (Value.slice B1 y.q.length B2) y.s y.e (Value.slice B3 y.i.length B4), Value.int IntKind.i64 c], peA (Value.slice B1 y.q.length B2) y.s y.e (Value.slice B3 y.i.length B4), Value.int IntKind.i64 c, Value.agg #[Value.slice B1 y.q.length B2, Value.int IntKind.i64 y.s, Value.int IntKind.i64 y.e, Value.slice B3 y.i.length B4], Value.agg #[Value.slice A1 y.q.length A2, Value.int IntKind.i64 y.s, Value.int IntKind.i64 y.e, Value.slice A3 y.i.length A4], Value.bool true, Value.bool false, Value.bool false, Value.int IntKind.i64 c, Value.int IntKind.i64 c, Value.bool false, Value.bool false, Value.agg #[Value.slice D21 p.q.length D22, Value.int IntKind.i64 p.s, Value.int IntKind.i64 p.e, Value.slice D23 p.i.length D24], Value.agg #[q, Value.int IntKind.i64 p.s, Value.int IntKind.i64 p.e, i], u7, Value.bool true, Value.bool false, Value.agg #[Value.slice D21 p.q.length D22, Value.int IntKind.i64 p.s, Value.int IntKind.i64 p.e, Value.slice D23 p.i.length D24], Value.int IntKind.i64 1, Value.int IntKind.i64 kx, Value.int IntKind.i64 kx, Value.bool (decide (kx < 0)), Value.bool (decide (kx < 0)), Value.agg #[Value.slice B1 y.q.length B2, Value.int IntKind.i64 y.s, Value.int IntKind.i64 y.e, Value.slice B3 y.i.length B4], Value.agg #[Value.slice A1 y.q.length A2, Value.int IntKind.i64 y.s, Value.int IntKind.i64 y.e, Value.slice A3 y.i.length A4], Value.bool true, Value.bool false, Value.bool (decide (kx < 0)), Value.bool (decide (kx < 0)), Value.int IntKind.i64 c, Value.int IntKind.i64 c, Value.bool false, Value.bool (decide (kx < 0)), Value.agg #[Value.slice B1 y.q.length B2, Value.int IntKind.i64 y.s, Value.int IntKind.i64 y.e, Value.slice B3 y.i.length B4], Value.int IntKind.i64 1, Value.int IntKind.i64 ↑km, Value.agg #[Value.slice B1 y.q.length B2, Value.int IntKind.i64 y.s, Value.int IntKind.i64 y.e, Value.slice B3 y.i.length B4], Value.int IntKind.i64 1, Value.int IntKind.i64 ↑km, Value.int IntKind.i64 ↑km, Value.bool (decide (↑km < 0)), Value.int IntKind.i64 ↑km, Value.int IntKind.i64 ↑km, Value.bool false, .tuple #[peA (.slice X1 y.q.length X2) y.s y.e (.slice X3 y.i.length X4), .int .i64 c], peA q p.s p.e i, u1, frV f, frV f, .tuple #[peA (.slice X1 y.q.length X2) y.s y.e (.slice X3 y.i.length X4), .int .i64 c], peA (.slice X1 y.q.length X2) y.s y.e (.slice X3 y.i.length X4), .int .i64 c, undef, undef, undef, undef, undef, undef, undef, undef, undef, undef, undef, undef, undef, undef, undef, undef, undef], defers := [] } ∧ (∃ lo hi, peO lo hi W5 (peA (.slice X1 y.q.length X2) y.s y.e (.slice X3 y.i.length X4)) y ∧ w12.heap.size ≤ lo ∧ hi ≤ W5.heap.size ∧ (gW < lo ∨ hi ≤ gW)) ∧ PC gW (.slice X1 y.q.length X2) y.s y.e (.slice X3 y.i.length X4) W5 ∧ w12.heap.size ≤ gW ∧ Below w12.heap.size w12 W5) ?_ ?_
  rotate_left
  · refine wp_region_held (S := fun W' => Below w12.heap.size w12 W') (by kernel_rfl) ?_
    have hS0 : Below w12.heap.size w12 { w12 with drawn := w12.drawn + 1 } := below_drewN (Below.refl _ _) 1
    refine wpAnyH_take (i := 0) (oi := { dst := some 85, op := Op.load 48 (Operand.tmp 2), type := 48, pos := "exact.go:4300", after := #[], guard := none }) (v := ?_) rfl (by kernel_rfl) (by kernel_rfl) (by kernel_rfl) (fun _ _ _ h => by obtain ⟨_, _, _, _, _, _, h, _⟩ := h; cases h) (Or.inl ⟨by rfl, ?_⟩) hS0 ?_
    rotate_left
    · intro W hSw
      obtain ⟨_, c0, c1, c2, c3⟩ := (unhide Q_128).below hSw
      obtain ⟨_, d0, d1, d2, d3⟩ := (unhide P_129).below hSw
      go_simp
      try with_reducible rfl
    simp only [Act.put, List.setIfInBounds_toArray, List.set_cons_zero, List.set_cons_succ]
    refine wpAnyH_take (i := 2) (oi := { dst := some 87, op := Op.load 55 (Operand.tmp 3), type := 55, pos := "exact.go:4300", after := #[], guard := none }) (v := ?_) rfl (by kernel_rfl) (by kernel_rfl) (by kernel_rfl) (fun _ _ _ h => by obtain ⟨_, _, _, _, _, _, h, _⟩ := h; cases h) (Or.inl ⟨by rfl, ?_⟩) hS0 ?_
    rotate_left
    · intro W hSw
      obtain ⟨_, c0, c1, c2, c3⟩ := (unhide Q_128).below hSw
      obtain ⟨_, d0, d1, d2, d3⟩ := (unhide P_129).below hSw
      go_simp
      try with_reducible rfl
    simp only [Act.put, List.setIfInBounds_toArray, List.set_cons_zero, List.set_cons_succ]
    obtain ⟨v0, hv0⟩ : ∃ v0, v0 = ({ w12 with drawn := w12.drawn + 1 } : World) := ⟨_, rfl⟩
    have s0 : Below w12.heap.size w12 v0 := by rw [hv0]; exact hS0
    rw [← hv0]
    clear hv0 hS0
    refine wpAnyH_two (i := 1) (j := 8) (by kernel_rfl) ?_ ?_
    · refine wpOp_step (o := { dst := some 86, op := Op.call { callee := Callee.value (Operand.func 27), args := #[Operand.tmp 85], argTypes := #[48] }, type := 33, pos := "exact.go:4300", after := #[{ on := 0, ground := Ground.data }], guard := none }) rfl fun K' hK => step_enterW (by rfl) 27 #[peA q p.s p.e i] (by go_simp) ((unhide HTO (unhide HN) v0 (((unhide HV).below (unhide B_127)).below s0)).mono ?_)
      rintro e v1 ⟨u1, rfl, o1, b⟩
      have s1 := bl_st b s0
      have U1 := o1.pe
      have C1 := o1.cap
      clear o1
      clear b
      refine ⟨_, rfl, hK _ _ ⟨s1, ?_⟩⟩
      simp only [Act.put, List.setIfInBounds_toArray, List.set_cons_zero, List.set_cons_succ]
      refine wpAnyH_two (i := 3) (j := 8) (by kernel_rfl) ?_ ?_
      · refine wpOp_step (o := { dst := some 88, op := Op.call { callee := Callee.value (Operand.func 33), args := #[Operand.tmp 87], argTypes := #[55] }, type := 41, pos := "exact.go:4300", after := #[{ on := 2, ground := Ground.data }, { on := 1, ground := Ground.chain }], guard := none }) rfl fun K' hK => step_enterW (by rfl) 33 #[frV f] (by go_simp) ((unhide HTF v1).mono ?_)
        rintro e v2 ⟨rfl, b⟩
        have s2 := bl_st b s1
        have U1 := U1.below b
        clear b
        refine ⟨_, rfl, hK _ _ ⟨s2, ?_⟩⟩
        simp only [Act.put, List.setIfInBounds_toArray, List.set_cons_zero, List.set_cons_succ]
        refine wpAnyH_two (i := 4) (j := 8) (by kernel_rfl) ?_ ?_
        · refine wpOp_step (o := { dst := some 89, op := Op.call { callee := Callee.value (Operand.func 18), args := #[Operand.tmp 86, Operand.tmp 88], argTypes := #[33, 41] }, type := 42, pos := "exact.go:4300", after := #[{ on := 1, ground := Ground.data }, { on := 3, ground := Ground.data }, { on := 3, ground := Ground.chain }], guard := none }) rfl fun K' hK => step_enterW (by rfl) 18 #[u1, frV f] (by go_simp) ((unhide HIM (unhide HN) (u1) v2 U1).mono ?_)
          rintro e v3 ⟨r3, rfl, oR, b⟩
          have s3 := bl_st b s2
          obtain ⟨X1, X2, X3, X4, hre⟩ := oR.pe.slices
          subst hre
          have bR := b
          have oR : ∃ lo hi, peO lo hi v3 (peA (.slice X1 y.q.length X2) y.s y.e (.slice X3 y.i.length X4)) y ∧ w12.heap.size ≤ lo ∧ hi ≤ v3.heap.size := ⟨_, _, oR, s2.size, Nat.le_refl _⟩
          clear b U1
          refine ⟨_, rfl, hK _ _ ⟨s3, ?_⟩⟩
          simp only [Act.put, List.setIfInBounds_toArray, List.set_cons_zero, List.set_cons_succ]
          refine wpAnyH_take (i := 5) (oi := { dst := some 84, op := Op.move (Operand.tmp 89), type := 42, pos := "exact.go:4300", after := #[{ on := 4, ground := Ground.data }], guard := none }) (v := ?_) rfl (by kernel_rfl) (by kernel_rfl) (by kernel_rfl) (fun _ _ _ h => by obtain ⟨_, _, _, _, _, _, h, _⟩ := h; cases h) (Or.inl ⟨by rfl, ?_⟩) s3 ?_
          rotate_left
          · intro W hSw
            go_simp
            try with_reducible rfl
          simp only [Act.put, List.setIfInBounds_toArray, List.set_cons_zero, List.set_cons_succ]
          refine wpAnyH_take (i := 6) (oi := { dst := some 90, op := Op.extract (Operand.tmp 84) 0, type := 33, pos := "exact.go:4300", after := #[{ on := 5, ground := Ground.data }], guard := none }) (v := ?_) rfl (by kernel_rfl) (by kernel_rfl) (by kernel_rfl) (fun _ _ _ h => by obtain ⟨_, _, _, _, _, _, h, _⟩ := h; cases h) (Or.inl ⟨by rfl, ?_⟩) s3 ?_
          rotate_left
          · intro W hSw
            go_simp
            try with_reducible rfl
          simp only [Act.put, List.setIfInBounds_toArray, List.set_cons_zero, List.set_cons_succ]
          refine wpAnyH_take (i := 7) (oi := { dst := some 91, op := Op.extract (Operand.tmp 84) 1, type := 3, pos := "exact.go:4300", after := #[{ on := 5, ground := Ground.data }, { on := 9, ground := Ground.gcOnly Departure.lateStores }], guard := none }) (v := ?_) rfl (by kernel_rfl) (by kernel_rfl) (by kernel_rfl) (fun _ _ _ h => by obtain ⟨_, _, _, _, _, _, h, _⟩ := h; cases h) (Or.inl ⟨by rfl, ?_⟩) s3 ?_
          rotate_left
          · intro W hSw
            go_simp
            try with_reducible rfl
          simp only [Act.put, List.setIfInBounds_toArray, List.set_cons_zero, List.set_cons_succ]
          refine wpAnyH_one (i := 8) (by kernel_rfl) ?_
          have s4 : Below w12.heap.size w12 (v3.alloc (.cells #[.slice none 0 0, .int .i64 0, .int .i64 0, .slice none 0 0] 33)) := bl_al s3
          have b : Below v3.heap.size v3 (v3.alloc (.cells #[.slice none 0 0, .int .i64 0, .int .i64 0, .slice none 0 0] 33)) := bl_al (Below.refl _ _)
          have hW := heap_alloc_new v3 (.cells #[.slice none 0 0, .int .i64 0, .int .i64 0, .slice none 0 0] 33)
          have lW : w12.heap.size ≤ v3.heap.size := s3.size
          have oR : ∃ lo hi, peO lo hi (v3.alloc (.cells #[.slice none 0 0, .int .i64 0, .int .i64 0, .slice none 0 0] 33)) (peA (.slice X1 y.q.length X2) y.s y.e (.slice X3 y.i.length X4)) y ∧ w12.heap.size ≤ lo ∧ hi ≤ (v3.alloc (.cells #[.slice none 0 0, .int .i64 0, .int .i64 0, .slice none 0 0] 33)).heap.size ∧ (v3.heap.size < lo ∨ hi ≤ v3.heap.size) := by
            obtain ⟨lo, hi, oo, o1, o2⟩ := oR
            exact ⟨lo, hi, oo.below b, o1, Nat.le_trans o2 b.size, .inr o2⟩
          clear b
          refine wpOp_step (o := { dst := some 14, op := Op.alloc 33, type := 0, pos := "exact.go:4300", after := #[], guard := none }) rfl fun K' hK => step_valueW (by rfl) (.pointer (some ⟨v3.heap.size, 0, none⟩)) (v3.alloc (.cells #[.slice none 0 0, .int .i64 0, .int .i64 0, .slice none 0 0] 33)) (by go_simp) ?_
          refine hK _ _ ⟨s4, ?_⟩
          simp only [Act.put, List.setIfInBounds_toArray, List.set_cons_zero, List.set_cons_succ]
          obtain ⟨gW, hgW⟩ : ∃ gW, gW = v3.heap.size := ⟨_, rfl⟩
          rw [← hgW] at hW lW ⊢
          rw [← hgW] at oR
          generalize v3.alloc (.cells #[.slice none 0 0, .int .i64 0, .int .i64 0, .slice none 0 0] 33) = v4 at *
          clear hgW
          have LW := lone_setRow gW v4 #[.slice X1 y.q.length X2, .int .i64 y.s, .int .i64 y.e, .slice X3 y.i.length X4]
          have z5 : Below w12.heap.size w12 (v4.setRow gW #[.slice X1 y.q.length X2, .int .i64 y.s, .int .i64 y.e, .slice X3 y.i.length X4]) := below_setRow s4 lW
          refine wpAnyH_one (i := 9) (by kernel_rfl) ?_
          refine wpOp_step (o := { dst := none, op := Op.store 33 (Operand.tmp 14) (Operand.tmp 90), type := 0, pos := "exact.go:4300", after := #[{ on := 8, ground := Ground.data }, { on := 6, ground := Ground.data }, { on := 4, ground := Ground.chain }, { on := 0, ground := Ground.phase }, { on := 1, ground := Ground.phase }, { on := 2, ground := Ground.phase }, { on := 3, ground := Ground.phase }, { on := 4, ground := Ground.phase }, { on := 5, ground := Ground.phase }, { on := 6, ground := Ground.phase }, { on := 7, ground := Ground.textOnly Departure.lateStores }, { on := 8, ground := Ground.phase }], guard := none }) rfl fun K' hK => step_storeRow (by rfl) 33 _ _ rfl gW #[.slice X1 y.q.length X2, .int .i64 y.s, .int .i64 y.e, .slice X3 y.i.length X4] rfl rfl 33 #[.slice none 0 0, .int .i64 0, .int .i64 0, .slice none 0 0] hW (by kernel_rfl) rfl (by kernel_rfl) ?_
          refine hK _ _ ⟨z5, ?_⟩
          try simp only [Act.put]
          refine wpAnyH_take (i := 10) (oi := { dst := some 15, op := Op.assign (Operand.tmp 91), type := 3, pos := "exact.go:4300", after := #[{ on := 7, ground := Ground.data }, { on := 9, ground := Ground.chain }, { on := 0, ground := Ground.phase }, { on := 1, ground := Ground.phase }, { on := 2, ground := Ground.phase }, { on := 3, ground := Ground.phase }, { on := 4, ground := Ground.phase }, { on := 5, ground := Ground.phase }, { on := 6, ground := Ground.phase }, { on := 7, ground := Ground.phase }, { on := 8, ground := Ground.phase }, { on := 9, ground := Ground.phase }], guard := none }) (v := ?_) rfl (by kernel_rfl) (by kernel_rfl) (by kernel_rfl) (fun _ _ _ h => by obtain ⟨_, _, _, _, _, _, h, _⟩ := h; cases h) (Or.inl ⟨by rfl, ?_⟩) z5 ?_
          rotate_left
          · intro W hSw
            go_simp
            try with_reducible rfl
          simp only [Act.put, List.setIfInBounds_toArray, List.set_cons_zero, List.set_cons_succ]
          refine wpAnyH_done (by kernel_rfl) ?_ _
          refine ⟨X1, X2, X3, X4, u1, gW, rfl, rfl, ?_, pc_row (get_setRow hW), lW, z5⟩
          obtain ⟨lo, hi, oo, o1, o2, o3⟩ := oR
          exact ⟨lo, hi, oo.lone LW o3, o1, by rw [size_setRow]; exact o2, o3⟩
        · have s3 : Below w12.heap.size w12 (v2.alloc (.cells #[.slice none 0 0, .int .i64 0, .int .i64 0, .slice none 0 0] 33)) := bl_al s2
          have b : Below v2.heap.size v2 (v2.alloc (.cells #[.slice none 0 0, .int .i64 0, .int .i64 0, .slice none 0 0] 33)) := bl_al (Below.refl _ _)
          have hW := heap_alloc_new v2 (.cells #[.slice none 0 0, .int .i64 0, .int .i64 0, .slice none 0 0] 33)
          have lW : w12.heap.size ≤ v2.heap.size := s2.size
          have U1 := U1.below b
          clear b
          refine wpOp_step (o := { dst := some 14, op := Op.alloc 33, type := 0, pos := "exact.go:4300", after := #[], guard := none }) rfl fun K' hK => step_valueW (by rfl) (.pointer (some ⟨v2.heap.size, 0, none⟩)) (v2.alloc (.cells #[.slice none 0 0, .int .i64 0, .int .i64 0, .slice none 0 0] 33)) (by go_simp) ?_
          refine hK _ _ ⟨s3, ?_⟩
          simp only [Act.put, List.setIfInBounds_toArray, List.set_cons_zero, List.set_cons_succ]
          obtain ⟨gW, hgW⟩ : ∃ gW, gW = v2.heap.size := ⟨_, rfl⟩
          rw [← hgW] at hW lW ⊢
          generalize v2.alloc (.cells #[.slice none 0 0, .int .i64 0, .int .i64 0, .slice none 0 0] 33) = v3 at *
          clear hgW
          refine wpAnyH_one (i := 4) (by kernel_rfl) ?_
          refine wpOp_step (o := { dst := some 89, op := Op.call { callee := Callee.value (Operand.func 18), args := #[Operand.tmp 86, Operand.tmp 88], argTypes := #[33, 41] }, type := 42, pos := "exact.go:4300", after := #[{ on := 1, ground := Ground.data }, { on := 3, ground := Ground.data }, { on := 3, ground := Ground.chain }], guard := none }) rfl fun K' hK => step_enterW (by rfl) 18 #[u1, frV f] (by go_simp) ((unhide HIM (unhide HN) (u1) v3 U1).mono ?_)
          rintro e v4 ⟨r3, rfl, oR, b⟩
          have s4 := bl_st b s3
          obtain ⟨X1, X2, X3, X4, hre⟩ := oR.pe.slices
          subst hre
          have bR := b
          have jW := (Array.getElem?_eq_some_iff.1 hW).1
          have oR : ∃ lo hi, peO lo hi v4 (peA (.slice X1 y.q.length X2) y.s y.e (.slice X3 y.i.length X4)) y ∧ w12.heap.size ≤ lo ∧ hi ≤ v4.heap.size ∧ (gW < lo ∨ hi ≤ gW) := ⟨_, _, oR, s3.size, Nat.le_refl _, .inl jW⟩
          have hW := (b.block _ (Array.getElem?_eq_some_iff.1 hW).1).trans hW
          clear b U1
          refine ⟨_, rfl, hK _ _ ⟨s4, ?_⟩⟩
          simp only [Act.put, List.setIfInBounds_toArray, List.set_cons_zero, List.set_cons_succ]
          refine wpAnyH_take (i := 5) (oi := { dst := some 84, op := Op.move (Operand.tmp 89), type := 42, pos := "exact.go:4300", after := #[{ on := 4, ground := Ground.data }], guard := none }) (v := ?_) rfl (by kernel_rfl) (by kernel_rfl) (by kernel_rfl) (fun _ _ _ h => by obtain ⟨_, _, _, _, _, _, h, _⟩ := h; cases h) (Or.inl ⟨by rfl, ?_⟩) s4 ?_
          rotate_left
          · intro W hSw
            go_simp
            try with_reducible rfl
          simp only [Act.put, List.setIfInBounds_toArray, List.set_cons_zero, List.set_cons_succ]
          refine wpAnyH_take (i := 6) (oi := { dst := some 90, op := Op.extract (Operand.tmp 84) 0, type := 33, pos := "exact.go:4300", after := #[{ on := 5, ground := Ground.data }], guard := none }) (v := ?_) rfl (by kernel_rfl) (by kernel_rfl) (by kernel_rfl) (fun _ _ _ h => by obtain ⟨_, _, _, _, _, _, h, _⟩ := h; cases h) (Or.inl ⟨by rfl, ?_⟩) s4 ?_
          rotate_left
          · intro W hSw
            go_simp
            try with_reducible rfl
          simp only [Act.put, List.setIfInBounds_toArray, List.set_cons_zero, List.set_cons_succ]
          refine wpAnyH_take (i := 7) (oi := { dst := some 91, op := Op.extract (Operand.tmp 84) 1, type := 3, pos := "exact.go:4300", after := #[{ on := 5, ground := Ground.data }, { on := 9, ground := Ground.gcOnly Departure.lateStores }], guard := none }) (v := ?_) rfl (by kernel_rfl) (by kernel_rfl) (by kernel_rfl) (fun _ _ _ h => by obtain ⟨_, _, _, _, _, _, h, _⟩ := h; cases h) (Or.inl ⟨by rfl, ?_⟩) s4 ?_
          rotate_left
          · intro W hSw
            go_simp
            try with_reducible rfl
          simp only [Act.put, List.setIfInBounds_toArray, List.set_cons_zero, List.set_cons_succ]
          have LW := lone_setRow gW v4 #[.slice X1 y.q.length X2, .int .i64 y.s, .int .i64 y.e, .slice X3 y.i.length X4]
          have z5 : Below w12.heap.size w12 (v4.setRow gW #[.slice X1 y.q.length X2, .int .i64 y.s, .int .i64 y.e, .slice X3 y.i.length X4]) := below_setRow s4 lW
          refine wpAnyH_one (i := 9) (by kernel_rfl) ?_
          refine wpOp_step (o := { dst := none, op := Op.store 33 (Operand.tmp 14) (Operand.tmp 90), type := 0, pos := "exact.go:4300", after := #[{ on := 8, ground := Ground.data }, { on := 6, ground := Ground.data }, { on := 4, ground := Ground.chain }, { on := 0, ground := Ground.phase }, { on := 1, ground := Ground.phase }, { on := 2, ground := Ground.phase }, { on := 3, ground := Ground.phase }, { on := 4, ground := Ground.phase }, { on := 5, ground := Ground.phase }, { on := 6, ground := Ground.phase }, { on := 7, ground := Ground.textOnly Departure.lateStores }, { on := 8, ground := Ground.phase }], guard := none }) rfl fun K' hK => step_storeRow (by rfl) 33 _ _ rfl gW #[.slice X1 y.q.length X2, .int .i64 y.s, .int .i64 y.e, .slice X3 y.i.length X4] rfl rfl 33 #[.slice none 0 0, .int .i64 0, .int .i64 0, .slice none 0 0] hW (by kernel_rfl) rfl (by kernel_rfl) ?_
          refine hK _ _ ⟨z5, ?_⟩
          try simp only [Act.put]
          refine wpAnyH_take (i := 10) (oi := { dst := some 15, op := Op.assign (Operand.tmp 91), type := 3, pos := "exact.go:4300", after := #[{ on := 7, ground := Ground.data }, { on := 9, ground := Ground.chain }, { on := 0, ground := Ground.phase }, { on := 1, ground := Ground.phase }, { on := 2, ground := Ground.phase }, { on := 3, ground := Ground.phase }, { on := 4, ground := Ground.phase }, { on := 5, ground := Ground.phase }, { on := 6, ground := Ground.phase }, { on := 7, ground := Ground.phase }, { on := 8, ground := Ground.phase }, { on := 9, ground := Ground.phase }], guard := none }) (v := ?_) rfl (by kernel_rfl) (by kernel_rfl) (by kernel_rfl) (fun _ _ _ h => by obtain ⟨_, _, _, _, _, _, h, _⟩ := h; cases h) (Or.inl ⟨by rfl, ?_⟩) z5 ?_
          rotate_left
          · intro W hSw
            go_simp
            try with_reducible rfl
          simp only [Act.put, List.setIfInBounds_toArray, List.set_cons_zero, List.set_cons_succ]
          refine wpAnyH_done (by kernel_rfl) ?_ _
          refine ⟨X1, X2, X3, X4, u1, gW, rfl, rfl, ?_, pc_row (get_setRow hW), lW, z5⟩
          obtain ⟨lo, hi, oo, o1, o2, o3⟩ := oR
          exact ⟨lo, hi, oo.lone LW o3, o1, by rw [size_setRow]; exact o2, o3⟩
      · have s2 : Below w12.heap.size w12 (v1.alloc (.cells #[.slice none 0 0, .int .i64 0, .int .i64 0, .slice none 0 0] 33)) := bl_al s1
        have b : Below v1.heap.size v1 (v1.alloc (.cells #[.slice none 0 0, .int .i64 0, .int .i64 0, .slice none 0 0] 33)) := bl_al (Below.refl _ _)
        have hW := heap_alloc_new v1 (.cells #[.slice none 0 0, .int .i64 0, .int .i64 0, .slice none 0 0] 33)
        have lW : w12.heap.size ≤ v1.heap.size := s1.size
        have U1 := U1.below b
        clear b
        refine wpOp_step (o := { dst := some 14, op := Op.alloc 33, type := 0, pos := "exact.go:4300", after := #[], guard := none }) rfl fun K' hK => step_valueW (by rfl) (.pointer (some ⟨v1.heap.size, 0, none⟩)) (v1.alloc (.cells #[.slice none 0 0, .int .i64 0, .int .i64 0, .slice none 0 0] 33)) (by go_simp) ?_
        refine hK _ _ ⟨s2, ?_⟩
        simp only [Act.put, List.setIfInBounds_toArray, List.set_cons_zero, List.set_cons_succ]
        obtain ⟨gW, hgW⟩ : ∃ gW, gW = v1.heap.size := ⟨_, rfl⟩
        rw [← hgW] at hW lW ⊢
        generalize v1.alloc (.cells #[.slice none 0 0, .int .i64 0, .int .i64 0, .slice none 0 0] 33) = v2 at *
        clear hgW
        refine wpAnyH_one (i := 3) (by kernel_rfl) ?_
        refine wpOp_step (o := { dst := some 88, op := Op.call { callee := Callee.value (Operand.func 33), args := #[Operand.tmp 87], argTypes := #[55] }, type := 41, pos := "exact.go:4300", after := #[{ on := 2, ground := Ground.data }, { on := 1, ground := Ground.chain }], guard := none }) rfl fun K' hK => step_enterW (by rfl) 33 #[frV f] (by go_simp) ((unhide HTF v2).mono ?_)
        rintro e v3 ⟨rfl, b⟩
        have s3 := bl_st b s2
        have U1 := U1.below b
        have hW := (b.block _ (Array.getElem?_eq_some_iff.1 hW).1).trans hW
        clear b
        refine ⟨_, rfl, hK _ _ ⟨s3, ?_⟩⟩
        simp only [Act.put, List.setIfInBounds_toArray, List.set_cons_zero, List.set_cons_succ]
        refine wpAnyH_one (i := 4) (by kernel_rfl) ?_
        refine wpOp_step (o := { dst := some 89, op := Op.call { callee := Callee.value (Operand.func 18), args := #[Operand.tmp 86, Operand.tmp 88], argTypes := #[33, 41] }, type := 42, pos := "exact.go:4300", after := #[{ on := 1, ground := Ground.data }, { on := 3, ground := Ground.data }, { on := 3, ground := Ground.chain }], guard := none }) rfl fun K' hK => step_enterW (by rfl) 18 #[u1, frV f] (by go_simp) ((unhide HIM (unhide HN) (u1) v3 U1).mono ?_)
        rintro e v4 ⟨r3, rfl, oR, b⟩
        have s4 := bl_st b s3
        obtain ⟨X1, X2, X3, X4, hre⟩ := oR.pe.slices
        subst hre
        have bR := b
        have jW := (Array.getElem?_eq_some_iff.1 hW).1
        have oR : ∃ lo hi, peO lo hi v4 (peA (.slice X1 y.q.length X2) y.s y.e (.slice X3 y.i.length X4)) y ∧ w12.heap.size ≤ lo ∧ hi ≤ v4.heap.size ∧ (gW < lo ∨ hi ≤ gW) := ⟨_, _, oR, s3.size, Nat.le_refl _, .inl jW⟩
        have hW := (b.block _ (Array.getElem?_eq_some_iff.1 hW).1).trans hW
        clear b U1
        refine ⟨_, rfl, hK _ _ ⟨s4, ?_⟩⟩
        simp only [Act.put, List.setIfInBounds_toArray, List.set_cons_zero, List.set_cons_succ]
        refine wpAnyH_take (i := 5) (oi := { dst := some 84, op := Op.move (Operand.tmp 89), type := 42, pos := "exact.go:4300", after := #[{ on := 4, ground := Ground.data }], guard := none }) (v := ?_) rfl (by kernel_rfl) (by kernel_rfl) (by kernel_rfl) (fun _ _ _ h => by obtain ⟨_, _, _, _, _, _, h, _⟩ := h; cases h) (Or.inl ⟨by rfl, ?_⟩) s4 ?_
        rotate_left
        · intro W hSw
          go_simp
          try with_reducible rfl
        simp only [Act.put, List.setIfInBounds_toArray, List.set_cons_zero, List.set_cons_succ]
        refine wpAnyH_take (i := 6) (oi := { dst := some 90, op := Op.extract (Operand.tmp 84) 0, type := 33, pos := "exact.go:4300", after := #[{ on := 5, ground := Ground.data }], guard := none }) (v := ?_) rfl (by kernel_rfl) (by kernel_rfl) (by kernel_rfl) (fun _ _ _ h => by obtain ⟨_, _, _, _, _, _, h, _⟩ := h; cases h) (Or.inl ⟨by rfl, ?_⟩) s4 ?_
        rotate_left
        · intro W hSw
          go_simp
          try with_reducible rfl
        simp only [Act.put, List.setIfInBounds_toArray, List.set_cons_zero, List.set_cons_succ]
        refine wpAnyH_take (i := 7) (oi := { dst := some 91, op := Op.extract (Operand.tmp 84) 1, type := 3, pos := "exact.go:4300", after := #[{ on := 5, ground := Ground.data }, { on := 9, ground := Ground.gcOnly Departure.lateStores }], guard := none }) (v := ?_) rfl (by kernel_rfl) (by kernel_rfl) (by kernel_rfl) (fun _ _ _ h => by obtain ⟨_, _, _, _, _, _, h, _⟩ := h; cases h) (Or.inl ⟨by rfl, ?_⟩) s4 ?_
        rotate_left
        · intro W hSw
          go_simp
          try with_reducible rfl
        simp only [Act.put, List.setIfInBounds_toArray, List.set_cons_zero, List.set_cons_succ]
        have LW := lone_setRow gW v4 #[.slice X1 y.q.length X2, .int .i64 y.s, .int .i64 y.e, .slice X3 y.i.length X4]
        have z5 : Below w12.heap.size w12 (v4.setRow gW #[.slice X1 y.q.length X2, .int .i64 y.s, .int .i64 y.e, .slice X3 y.i.length X4]) := below_setRow s4 lW
        refine wpAnyH_one (i := 9) (by kernel_rfl) ?_
        refine wpOp_step (o := { dst := none, op := Op.store 33 (Operand.tmp 14) (Operand.tmp 90), type := 0, pos := "exact.go:4300", after := #[{ on := 8, ground := Ground.data }, { on := 6, ground := Ground.data }, { on := 4, ground := Ground.chain }, { on := 0, ground := Ground.phase }, { on := 1, ground := Ground.phase }, { on := 2, ground := Ground.phase }, { on := 3, ground := Ground.phase }, { on := 4, ground := Ground.phase }, { on := 5, ground := Ground.phase }, { on := 6, ground := Ground.phase }, { on := 7, ground := Ground.textOnly Departure.lateStores }, { on := 8, ground := Ground.phase }], guard := none }) rfl fun K' hK => step_storeRow (by rfl) 33 _ _ rfl gW #[.slice X1 y.q.length X2, .int .i64 y.s, .int .i64 y.e, .slice X3 y.i.length X4] rfl rfl 33 #[.slice none 0 0, .int .i64 0, .int .i64 0, .slice none 0 0] hW (by kernel_rfl) rfl (by kernel_rfl) ?_
        refine hK _ _ ⟨z5, ?_⟩
        try simp only [Act.put]
        refine wpAnyH_take (i := 10) (oi := { dst := some 15, op := Op.assign (Operand.tmp 91), type := 3, pos := "exact.go:4300", after := #[{ on := 7, ground := Ground.data }, { on := 9, ground := Ground.chain }, { on := 0, ground := Ground.phase }, { on := 1, ground := Ground.phase }, { on := 2, ground := Ground.phase }, { on := 3, ground := Ground.phase }, { on := 4, ground := Ground.phase }, { on := 5, ground := Ground.phase }, { on := 6, ground := Ground.phase }, { on := 7, ground := Ground.phase }, { on := 8, ground := Ground.phase }, { on := 9, ground := Ground.phase }], guard := none }) (v := ?_) rfl (by kernel_rfl) (by kernel_rfl) (by kernel_rfl) (fun _ _ _ h => by obtain ⟨_, _, _, _, _, _, h, _⟩ := h; cases h) (Or.inl ⟨by rfl, ?_⟩) z5 ?_
        rotate_left
        · intro W hSw
          go_simp
          try with_reducible rfl
        simp only [Act.put, List.setIfInBounds_toArray, List.set_cons_zero, List.set_cons_succ]
        refine wpAnyH_done (by kernel_rfl) ?_ _
        refine ⟨X1, X2, X3, X4, u1, gW, rfl, rfl, ?_, pc_row (get_setRow hW), lW, z5⟩
        obtain ⟨lo, hi, oo, o1, o2, o3⟩ := oR
        exact ⟨lo, hi, oo.lone LW o3, o1, by rw [size_setRow]; exact o2, o3⟩
    · have s1 : Below w12.heap.size w12 (v0.alloc (.cells #[.slice none 0 0, .int .i64 0, .int .i64 0, .slice none 0 0] 33)) := bl_al s0
      have b : Below v0.heap.size v0 (v0.alloc (.cells #[.slice none 0 0, .int .i64 0, .int .i64 0, .slice none 0 0] 33)) := bl_al (Below.refl _ _)
      have hW := heap_alloc_new v0 (.cells #[.slice none 0 0, .int .i64 0, .int .i64 0, .slice none 0 0] 33)
      have lW : w12.heap.size ≤ v0.heap.size := s0.size
      clear b
      refine wpOp_step (o := { dst := some 14, op := Op.alloc 33, type := 0, pos := "exact.go:4300", after := #[], guard := none }) rfl fun K' hK => step_valueW (by rfl) (.pointer (some ⟨v0.heap.size, 0, none⟩)) (v0.alloc (.cells #[.slice none 0 0, .int .i64 0, .int .i64 0, .slice none 0 0] 33)) (by go_simp) ?_
      refine hK _ _ ⟨s1, ?_⟩
      simp only [Act.put, List.setIfInBounds_toArray, List.set_cons_zero, List.set_cons_succ]
      obtain ⟨gW, hgW⟩ : ∃ gW, gW = v0.heap.size := ⟨_, rfl⟩
      rw [← hgW] at hW lW ⊢
      generalize v0.alloc (.cells #[.slice none 0 0, .int .i64 0, .int .i64 0, .slice none 0 0] 33) = v1 at *
      clear hgW
      refine wpAnyH_one (i := 1) (by kernel_rfl) ?_
      refine wpOp_step (o := { dst := some 86, op := Op.call { callee := Callee.value (Operand.func 27), args := #[Operand.tmp 85], argTypes := #[48] }, type := 33, pos := "exact.go:4300", after := #[{ on := 0, ground := Ground.data }], guard := none }) rfl fun K' hK => step_enterW (by rfl) 27 #[peA q p.s p.e i] (by go_simp) ((unhide HTO (unhide HN) v1 (((unhide HV).below (unhide B_127)).below s1)).mono ?_)
      rintro e v2 ⟨u1, rfl, o1, b⟩
      have s2 := bl_st b s1
      have U1 := o1.pe
      have C1 := o1.cap
      clear o1
      have hW := (b.block _ (Array.getElem?_eq_some_iff.1 hW).1).trans hW
      clear b
      refine ⟨_, rfl, hK _ _ ⟨s2, ?_⟩⟩
      simp only [Act.put, List.setIfInBounds_toArray, List.set_cons_zero, List.set_cons_succ]
      refine wpAnyH_one (i := 3) (by kernel_rfl) ?_
      refine wpOp_step (o := { dst := some 88, op := Op.call { callee := Callee.value (Operand.func 33), args := #[Operand.tmp 87], argTypes := #[55] }, type := 41, pos := "exact.go:4300", after := #[{ on := 2, ground := Ground.data }, { on := 1, ground := Ground.chain }], guard := none }) rfl fun K' hK => step_enterW (by rfl) 33 #[frV f] (by go_simp) ((unhide HTF v2).mono ?_)
      rintro e v3 ⟨rfl, b⟩
      have s3 := bl_st b s2
      have U1 := U1.below b
      have hW := (b.block _ (Array.getElem?_eq_some_iff.1 hW).1).trans hW
      clear b
      refine ⟨_, rfl, hK _ _ ⟨s3, ?_⟩⟩
      simp only [Act.put, List.setIfInBounds_toArray, List.set_cons_zero, List.set_cons_succ]
      refine wpAnyH_one (i := 4) (by kernel_rfl) ?_
      refine wpOp_step (o := { dst := some 89, op := Op.call { callee := Callee.value (Operand.func 18), args := #[Operand.tmp 86, Operand.tmp 88], argTypes := #[33, 41] }, type := 42, pos := "exact.go:4300", after := #[{ on := 1, ground := Ground.data }, { on := 3, ground := Ground.data }, { on := 3, ground := Ground.chain }], guard := none }) rfl fun K' hK => step_enterW (by rfl) 18 #[u1, frV f] (by go_simp) ((unhide HIM (unhide HN) (u1) v3 U1).mono ?_)
      rintro e v4 ⟨r3, rfl, oR, b⟩
      have s4 := bl_st b s3
      obtain ⟨X1, X2, X3, X4, hre⟩ := oR.pe.slices
      subst hre
      have bR := b
      have jW := (Array.getElem?_eq_some_iff.1 hW).1
      have oR : ∃ lo hi, peO lo hi v4 (peA (.slice X1 y.q.length X2) y.s y.e (.slice X3 y.i.length X4)) y ∧ w12.heap.size ≤ lo ∧ hi ≤ v4.heap.size ∧ (gW < lo ∨ hi ≤ gW) := ⟨_, _, oR, s3.size, Nat.le_refl _, .inl jW⟩
      have hW := (b.block _ (Array.getElem?_eq_some_iff.1 hW).1).trans hW
      clear b U1
      refine ⟨_, rfl, hK _ _ ⟨s4, ?_⟩⟩
      simp only [Act.put, List.setIfInBounds_toArray, List.set_cons_zero, List.set_cons_succ]
      refine wpAnyH_take (i := 5) (oi := { dst := some 84, op := Op.move (Operand.tmp 89), type := 42, pos := "exact.go:4300", after := #[{ on := 4, ground := Ground.data }], guard := none }) (v := ?_) rfl (by kernel_rfl) (by kernel_rfl) (by kernel_rfl) (fun _ _ _ h => by obtain ⟨_, _, _, _, _, _, h, _⟩ := h; cases h) (Or.inl ⟨by rfl, ?_⟩) s4 ?_
      rotate_left
      · intro W hSw
        go_simp
        try with_reducible rfl
      simp only [Act.put, List.setIfInBounds_toArray, List.set_cons_zero, List.set_cons_succ]
      refine wpAnyH_take (i := 6) (oi := { dst := some 90, op := Op.extract (Operand.tmp 84) 0, type := 33, pos := "exact.go:4300", after := #[{ on := 5, ground := Ground.data }], guard := none }) (v := ?_) rfl (by kernel_rfl) (by kernel_rfl) (by kernel_rfl) (fun _ _ _ h => by obtain ⟨_, _, _, _, _, _, h, _⟩ := h; cases h) (Or.inl ⟨by rfl, ?_⟩) s4 ?_
      rotate_left
      · intro W hSw
        go_simp
        try with_reducible rfl
      simp only [Act.put, List.setIfInBounds_toArray, List.set_cons_zero, List.set_cons_succ]
      refine wpAnyH_take (i := 7) (oi := { dst := some 91, op := Op.extract (Operand.tmp 84) 1, type := 3, pos := "exact.go:4300", after := #[{ on := 5, ground := Ground.data }, { on := 9, ground := Ground.gcOnly Departure.lateStores }], guard := none }) (v := ?_) rfl (by kernel_rfl) (by kernel_rfl) (by kernel_rfl) (fun _ _ _ h => by obtain ⟨_, _, _, _, _, _, h, _⟩ := h; cases h) (Or.inl ⟨by rfl, ?_⟩) s4 ?_
      rotate_left
      · intro W hSw
        go_simp
        try with_reducible rfl
      simp only [Act.put, List.setIfInBounds_toArray, List.set_cons_zero, List.set_cons_succ]
      have LW := lone_setRow gW v4 #[.slice X1 y.q.length X2, .int .i64 y.s, .int .i64 y.e, .slice X3 y.i.length X4]
      have z5 : Below w12.heap.size w12 (v4.setRow gW #[.slice X1 y.q.length X2, .int .i64 y.s, .int .i64 y.e, .slice X3 y.i.length X4]) := below_setRow s4 lW
      refine wpAnyH_one (i := 9) (by kernel_rfl) ?_
      refine wpOp_step (o := { dst := none, op := Op.store 33 (Operand.tmp 14) (Operand.tmp 90), type := 0, pos := "exact.go:4300", after := #[{ on := 8, ground := Ground.data }, { on := 6, ground := Ground.data }, { on := 4, ground := Ground.chain }, { on := 0, ground := Ground.phase }, { on := 1, ground := Ground.phase }, { on := 2, ground := Ground.phase }, { on := 3, ground := Ground.phase }, { on := 4, ground := Ground.phase }, { on := 5, ground := Ground.phase }, { on := 6, ground := Ground.phase }, { on := 7, ground := Ground.textOnly Departure.lateStores }, { on := 8, ground := Ground.phase }], guard := none }) rfl fun K' hK => step_storeRow (by rfl) 33 _ _ rfl gW #[.slice X1 y.q.length X2, .int .i64 y.s, .int .i64 y.e, .slice X3 y.i.length X4] rfl rfl 33 #[.slice none 0 0, .int .i64 0, .int .i64 0, .slice none 0 0] hW (by kernel_rfl) rfl (by kernel_rfl) ?_
      refine hK _ _ ⟨z5, ?_⟩
      try simp only [Act.put]
      refine wpAnyH_take (i := 10) (oi := { dst := some 15, op := Op.assign (Operand.tmp 91), type := 3, pos := "exact.go:4300", after := #[{ on := 7, ground := Ground.data }, { on := 9, ground := Ground.chain }, { on := 0, ground := Ground.phase }, { on := 1, ground := Ground.phase }, { on := 2, ground := Ground.phase }, { on := 3, ground := Ground.phase }, { on := 4, ground := Ground.phase }, { on := 5, ground := Ground.phase }, { on := 6, ground := Ground.phase }, { on := 7, ground := Ground.phase }, { on := 8, ground := Ground.phase }, { on := 9, ground := Ground.phase }], guard := none }) (v := ?_) rfl (by kernel_rfl) (by kernel_rfl) (by kernel_rfl) (fun _ _ _ h => by obtain ⟨_, _, _, _, _, _, h, _⟩ := h; cases h) (Or.inl ⟨by rfl, ?_⟩) z5 ?_
      rotate_left
      · intro W hSw
        go_simp
        try with_reducible rfl
      simp only [Act.put, List.setIfInBounds_toArray, List.set_cons_zero, List.set_cons_succ]
      refine wpAnyH_done (by kernel_rfl) ?_ _
      refine ⟨X1, X2, X3, X4, u1, gW, rfl, rfl, ?_, pc_row (get_setRow hW), lW, z5⟩
      obtain ⟨lo, hi, oo, o1, o2, o3⟩ := oR
      exact ⟨lo, hi, oo.lone LW o3, o1, by rw [size_setRow]; exact o2, o3⟩
  rintro e1 aQ wC ⟨C1, C2, C3, C4, uuwC, gC, rfl, rfl, ⟨lowC, hiwC, o5, l1, l2, l3⟩, pc5, lg5, b5⟩
  have B_136 := hide (bl_st b5 (unhide B_127))
  have Q_137 := hide ((unhide Q_128).below b5)
  have P_138 := hide ((unhide P_129).below b5)
  have OW_139 := hide ((unhide OW_130).below b5)
  have WC_140 := hide ((unhide WC_131).below b5)
  have XC_141 := hide ((unhide XC_132).below b5)
  have GC_142 := hide ((unhide GC_133).below b5)
  have OG_143 := hide ((unhide OG_134).below b5)
  have Z144 := hide b5.size
  clear B_127 Q_128 P_129 OW_130 WC_131 XC_132 GC_133 OG_134
  have ZAwC := hide (show w12.heap.size ≤ lowC ∧ hiwC ≤ wC.heap.size ∧ (gC < lowC ∨ hiwC ≤ gC) ∧ w12.heap.size ≤ gC ∧ gC < wC.heap.size from ⟨l1, l2, l3, lg5, pc5.lt⟩)
  have OH0 := hide o5
  have OHC0 := hide pc5
  clear o5 l1 l2 l3 pc5 lg5 b5
  obtain ⟨_, c145, c146, c147, c148⟩ := unhide OHC0
  obtain ⟨_, c149, c150, c151, c152⟩ := unhide WC_140
  go_wp2_with fail
  refine (unhide HEY _ _ wC (unhide OH0).pe (unhide OW_139).pe).mono ?_
  rintro e w15 ⟨rfl, b15⟩
  clear c145 c146 c147 c148 c149 c150 c151 c152
  have B_153 := hide (bl_st b15 (unhide B_136))
  have Q_154 := hide ((unhide Q_137).below b15)
  have P_155 := hide ((unhide P_138).below b15)
  have OW_156 := hide ((unhide OW_139).below b15)
  have WC_157 := hide ((unhide WC_140).below b15)
  have XC_158 := hide ((unhide XC_141).below b15)
  have GC_159 := hide ((unhide GC_142).below b15)
  have OG_160 := hide ((unhide OG_143).below b15)
  have OH_161 := hide ((unhide OH0).below b15)
  have HHC_162 := hide ((unhide OHC0).below b15)
  have Z163 := hide b15.size
  clear B_136 Q_137 P_138 OW_139 WC_140 XC_141 GC_142 OG_143 OH0 OHC0
  clear b15
  obtain ⟨_, c164, c165, c166, c167⟩ := unhide GC_159
  go_wp2_with fail
  refine (unhide HHY _ w15 (unhide OG_160).pe).mono ?_
  rintro e w16 ⟨rfl, b16⟩
  clear c164 c165 c166 c167
  have B_168 := hide (bl_st b16 (unhide B_153))
  have Q_169 := hide ((unhide Q_154).below b16)
  have P_170 := hide ((unhide P_155).below b16)
  have OW_171 := hide ((unhide OW_156).below b16)
  have WC_172 := hide ((unhide WC_157).below b16)
  have XC_173 := hide ((unhide XC_158).below b16)
  have GC_174 := hide ((unhide GC_159).below b16)
  have OG_175 := hide ((unhide OG_160).below b16)
  have OH_176 := hide ((unhide OH_161).below b16)
  have HHC_177 := hide ((unhide HHC_162).below b16)
  have Z178 := hide b16.size
  clear B_153 Q_154 P_155 OW_156 WC_157 XC_158 GC_159 OG_160 OH_161 HHC_162
  clear b16
  go_wp2
  go_ret
  exact ⟨rfl, unhide B_168⟩
end Go.Proofs.Ythonnlifgdnacaa
