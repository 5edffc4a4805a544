/- The law FnPeers. -/
import Derived.Test.YthonnlifgdnacaaPem
namespace Go.Proofs.Ythonnlifgdnacaa
open Go.RowKit
set_option maxHeartbeats 4000000
set_option maxRecDepth 20000
set_option linter.unusedVariables false
theorem tkC_few {al : List Ta} (h : al.length ≤ 60) (ht : ∀ a ∈ al, a.t.size ≤ 10) : tkC al = 0 := by
  unfold tkC
  rw [if_neg (by omega), if_neg (by omega), if_neg]
  intro c
  rw [List.any_eq_true] at c
  obtain ⟨a, ha, hc⟩ := c
  have := of_decide_eq_true hc
  have := ht a ha
  omega
theorem peV_q {w : World} {q i : Value} {s e : Int} {p : Pe} (h : peV w (peA q s e i) p) : strsV w q p.q := by
  obtain ⟨q2, i2, hpe, hq, hi⟩ := h
  injection hpe with hpe; injection hpe with hpe; simp at hpe
  rw [hpe.1]; exact hq
theorem say_all {p : Pe} (h : Pr p) : ∃ (x : Pe) (cd : Int) (hd0 : ByteArray),
    Hid (∀ u W, peV W u p → Calls Try.prog 21 #[u, .string moreT] W fun e w' => outO W x cd e w') ∧ Hid (∀ u W, peV W u p → Calls Try.prog 22 #[u, .string moreT] W fun e w' => outV W x cd e w') ∧
    Hid (∀ u W, peV W u x → Calls Try.prog 23 #[u] W fun e w' => e = .returned (.tuple #[frV ⟨p.s, p.e, true, hd0⟩, .int .i64 0]) ∧ Below W.heap.size W w') ∧
    Hid (∀ u W, peV W u x → Calls Try.prog 24 #[u] W fun e w' => e = .returned (.tuple #[frV ⟨p.s, p.e, true, hd0⟩, .int .i64 0]) ∧ Below W.heap.size W w') ∧ Hid (peFew x) := by
  have hm : moreT.size ≤ maxLen := by decide
  have hx := ok_few' (sayK_ok h)
  refine ⟨(sayF p moreT).1, (sayF p moreT).2, (sayF p moreT).1.q.getD 0 ⟨#[]⟩, hide fun u W hu => ?_, hide fun u W hu => ?_, hide fun u W hu => ?_, hide fun u W hu => ?_, hide hx⟩
  · have K := say21 u p moreT W hu (ok_few' h.ok) hm
    rw [sayK h] at K; exact K
  · have K := say22 u p moreT W hu (ok_few' h.ok) hm
    rw [sayK h] at K; exact K
  · have K := out23 u _ W hu hx
    rw [outK h] at K; exact K
  · have K := out24 u _ W hu hx
    rw [outK h] at K; exact K
theorem merge3 {G : Nat → World → Nat → Prop} {X : Prop} (F : Nat → World → Nat → Prop) (h : (∀ a b c, F a b c → G a b c) → X) (m : ∀ a b c, F a b c → G a b c) : X := h m
theorem law_peers (A B : Option Addr) (n cap m cbp : Nat) (w : World) (hn : n ≤ maxLen) (hm : m ≤ maxLen) (hA : codeAt w A n) (hB : codeAt w B m) :
    Calls Try.prog 5 #[.slice A n cap, .slice B m cbp] w fun e w' => e = .returned (.bool true) ∧ Below w.heap.size w w' := by
  have hn' := hn
  unfold maxLen at hn' hm
  by_cases h1 : 1048576 < n
  · have q1 : (1048576 : Int) < (n : Int) := by omega
    clear hA hB
    go_enter Try.func5, Try.ntmps5
    go_wp2_with fail
    go_ret
    exact ⟨rfl, Below.refl _ _⟩
  by_cases h2 : 1048576 < m
  · have q1 : (n : Int) ≤ 1048576 := by omega
    have q2 : (1048576 : Int) < (m : Int) := by omega
    clear hA hB h1
    go_enter Try.func5, Try.ntmps5
    go_wp2_with fail
    go_ret
    exact ⟨rfl, Below.refl _ _⟩
  have q1 : (n : Int) ≤ 1048576 := by omega
  have q2 : (m : Int) ≤ 1048576 := by omega
  have K1 := hide (of11 A n cap w hn hA)
  have HB := hide hB
  have HM : Hid (m ≤ 1048576) := hide (by omega)
  clear hA hB h1 h2 hn
  go_enter Try.func5, Try.ntmps5
  go_wp2_with fail
  refine (unhide K1).mono ?_
  rintro e w1 ⟨v, al, rfl, hv, hl, ht, b1⟩
  have hc := tkC_few hl ht
  have K2 := hide (run13 v al w1 hv (by unfold maxLen; omega) (fun a ha => by have := ht a ha; unfold maxLen; omega))
  have B1 := hide b1
  clear K1 hv ht b1 hl
  go_wp2_with fail
  refine (unhide K2).mono ?_
  rintro e w2 ⟨lv, cv, rfl, ho, b2⟩
  rw [hc]
  have hr := (ho.1 hc).1
  have hpr := pr_run al
  have B2 := bl_st b2 (unhide B1)
  generalize runF al tw0 = z at *
  obtain ⟨g, c, q0, i0, q1', i1, rest, rfl, hc2, hrow, hx, hxc, hy, hyc⟩ := hr
  have KA := hide (at_any w2 B m cbp 0 2 (unhide HM) (by omega) (by omega) (by omega) (codeAt_below (unhide HB) B2))
  have HB2 := hide B2
  clear K2 B1 ho b2 B2 hc
  have HROW := hide hrow
  have HX := hide hx
  have HY := hide hy
  clear hrow hx hy
  go_wp2_with fail
  refine (unhide KA).mono ?_
  rintro e w3 ⟨k, rfl, hk, b3⟩
  have B3 := hide (bl_st b3 (unhide HB2))
  have row3 := (unhide HROW).below b3
  obtain ⟨q, i, p, off, ho, hpr', hpc, hpv, d0, d1, d2, d3⟩ : ∃ q i p off, off = 4 * k ∧ Pr p ∧ capQ (peA q p.s p.e i) p ∧ peV w3 (peA q p.s p.e i) p ∧
      w3.cell? ⟨g, off, none⟩ = some q ∧ w3.cell? ⟨g, off + 1, none⟩ = some (.int .i64 p.s) ∧ w3.cell? ⟨g, off + 2, none⟩ = some (.int .i64 p.e) ∧ w3.cell? ⟨g, off + 3, none⟩ = some i := by
    rcases (by omega : k = 0 ∨ k = 1) with rfl | rfl
    · exact ⟨q0, i0, z.x, 0, rfl, hpr.1, hxc, (unhide HX).below b3, row3.c0, row3.c1, row3.c2, row3.c3⟩
    · exact ⟨q1', i1, z.y, 4, rfl, hpr.2, hyc, (unhide HY).below b3, row3.c4, row3.c5, row3.c6, row3.c7⟩
  have HPR := hide hpr'
  have HPC := hide hpc
  have HPV := hide hpv
  obtain ⟨q2, i2, hpe, hq, hi⟩ := hpv
  obtain ⟨A1, ca, rfl⟩ : ∃ A1 ca, q = .slice A1 p.q.length ca := by
    obtain ⟨A1, ca, e⟩ := hq.slice
    injection hpe with hpe; injection hpe with hpe; simp at hpe
    exact ⟨A1, ca, hpe.1.trans e⟩
  obtain ⟨A2, cb, rfl⟩ : ∃ A2 cb, i = .slice A2 p.i.length cb := by
    obtain ⟨A1, ca, e⟩ := hi.slice
    injection hpe with hpe; injection hpe with hpe; simp at hpe
    exact ⟨A1, ca, hpe.2.trans e⟩
  clear hpe hq hi
  clear row3 b3 HB2 HROW HX HY hpr hpr' hpc hxc hyc
  have k0 : (0 : Int) ≤ (k : Int) := by omega
  have k1 : (k : Int) < 2 := by omega
  clear KA
  rw [show off = k * 4 by omega] at d0 d1 d2 d3
  have es := (unhide HPR).s
  have ee := (unhide HPR).e
  obtain ⟨s0, s1⟩ := es
  obtain ⟨e0, e1⟩ := ee
  have HC4 := hide (pc_new w3 (.slice A1 p.q.length ca) p.s p.e (.slice A2 p.i.length cb) 33)
  have B4 := hide (bl_al (o := .cells #[.slice A1 p.q.length ca, .int .i64 p.s, .int .i64 p.e, .slice A2 p.i.length cb] 33) (unhide B3))
  have V4 := hide ((unhide HPV).below (bl_al (o := .cells #[.slice A1 p.q.length ca, .int .i64 p.s, .int .i64 p.e, .slice A2 p.i.length cb] 33) (Below.refl _ _)))
  have Z4 : Hid (w3.heap.size < (w3.alloc (.cells #[.slice A1 p.q.length ca, .int .i64 p.s, .int .i64 p.e, .slice A2 p.i.length cb] 33)).heap.size) := hide (by simp)
  have KA2 := hide (fun W (h : Below w.heap.size w W) => at_any W B m cbp 1 2 (unhide HM) (by omega) (by omega) (by omega) (codeAt_below (unhide HB) h))
  go_wp2_with fail
  generalize w3.alloc (.cells #[.slice A1 p.q.length ca, .int .i64 p.s, .int .i64 p.e, .slice A2 p.i.length cb] 33) = w4 at *
  clear B3 HPV d0 d1 d2 d3
  refine wp_region_late (S := fun W' => Below w4.heap.size w4 W') (late := [10]) (by kernel_rfl) ?_
  have hS0 : Below w4.heap.size w4 { w4 with drawn := w4.drawn + 1 } := below_drewN (Below.refl _ _) 1
  obtain ⟨w4', hw4⟩ : ∃ x, x = ({ w4 with drawn := w4.drawn + 1 } : World) := ⟨_, rfl⟩
  rw [← hw4] at hS0 ⊢
  clear hw4
  refine wpAnyL_take (i := 0) (oi := { dst := some 45, op := Op.fieldAddr 33 (Operand.tmp 8) 2, type := 0, pos := "laws.go:1158", after := #[], guard := none }) (v := ?_) rfl (by kernel_rfl) (by kernel_rfl) (by kernel_rfl) (by kernel_rfl) (fun _ _ _ h => h) (Or.inl ⟨by rfl, ?_⟩) hS0 ?_
  rotate_left
  · intro W hSw
    obtain ⟨_, c0, c1, c2, c3⟩ := (unhide HC4).below hSw
    go_simp
    try with_reducible rfl
  simp only [Act.put, List.setIfInBounds_toArray, List.set_cons_zero, List.set_cons_succ]
  refine wpAnyL_take (i := 1) (oi := { dst := some 46, op := Op.load 3 (Operand.tmp 45), type := 3, pos := "laws.go:1158", after := #[{ on := 0, ground := Ground.data }], guard := none }) (v := ?_) rfl (by kernel_rfl) (by kernel_rfl) (by kernel_rfl) (by kernel_rfl) (fun _ _ _ h => h) (Or.inl ⟨by rfl, ?_⟩) hS0 ?_
  rotate_left
  · intro W hSw
    obtain ⟨_, c0, c1, c2, c3⟩ := (unhide HC4).below hSw
    go_simp
    try with_reducible rfl
  simp only [Act.put, List.setIfInBounds_toArray, List.set_cons_zero, List.set_cons_succ]
  refine wpAnyL_take (i := 2) (oi := { dst := some 47, op := Op.move (Operand.tmp 1), type := 22, pos := "laws.go:1158", after := #[], guard := none }) (v := ?_) rfl (by kernel_rfl) (by kernel_rfl) (by kernel_rfl) (by kernel_rfl) (fun _ _ _ h => h) (Or.inl ⟨by rfl, ?_⟩) hS0 ?_
  rotate_left
  · intro W hSw
    obtain ⟨_, c0, c1, c2, c3⟩ := (unhide HC4).below hSw
    go_simp
    try with_reducible rfl
  simp only [Act.put, List.setIfInBounds_toArray, List.set_cons_zero, List.set_cons_succ]
  refine wpAnyL_take (i := 5) (oi := { dst := some 50, op := Op.fieldAddr 33 (Operand.tmp 8) 1, type := 0, pos := "laws.go:1158", after := #[], guard := none }) (v := ?_) rfl (by kernel_rfl) (by kernel_rfl) (by kernel_rfl) (by kernel_rfl) (fun _ _ _ h => h) (Or.inl ⟨by rfl, ?_⟩) hS0 ?_
  rotate_left
  · intro W hSw
    obtain ⟨_, c0, c1, c2, c3⟩ := (unhide HC4).below hSw
    go_simp
    try with_reducible rfl
  simp only [Act.put, List.setIfInBounds_toArray, List.set_cons_zero, List.set_cons_succ]
  refine wpAnyL_take (i := 6) (oi := { dst := some 51, op := Op.load 3 (Operand.tmp 50), type := 3, pos := "laws.go:1158", after := #[{ on := 5, ground := Ground.data }], guard := none }) (v := ?_) rfl (by kernel_rfl) (by kernel_rfl) (by kernel_rfl) (by kernel_rfl) (fun _ _ _ h => h) (Or.inl ⟨by rfl, ?_⟩) hS0 ?_
  rotate_left
  · intro W hSw
    obtain ⟨_, c0, c1, c2, c3⟩ := (unhide HC4).below hSw
    go_simp
    try with_reducible rfl
  simp only [Act.put, List.setIfInBounds_toArray, List.set_cons_zero, List.set_cons_succ]
  refine wpAnyL_take (i := 7) (oi := { dst := some 52, op := Op.binOp BinOp.add 3 (Operand.tmp 51) (Operand.const (Value.int IntKind.i64 5)) 3, type := 3, pos := "laws.go:1158", after := #[{ on := 6, ground := Ground.data }], guard := none }) (v := ?_) rfl (by kernel_rfl) (by kernel_rfl) (by kernel_rfl) (by kernel_rfl) (fun _ _ _ h => h) (Or.inl ⟨by rfl, ?_⟩) hS0 ?_
  rotate_left
  · intro W hSw
    obtain ⟨_, c0, c1, c2, c3⟩ := (unhide HC4).below hSw
    go_simp
    try with_reducible rfl
  simp only [Act.put, List.setIfInBounds_toArray, List.set_cons_zero, List.set_cons_succ]
  apply merge3 (fun (fb : Nat) (w7 : World) (d : Nat) => d < 2 ∧ Hid (Below w4.heap.size w4 w7) ∧ Hid (FC fb (p.e + d) (p.s + 5) true bodyT w7))
  case h =>
    intro main
    refine wpAnyL_two (i := 3) (j := 9) (by kernel_rfl) ?wA ?wB
    case wA =>
      refine wpOp_step (o := { dst := some 48, op := Op.call { callee := Callee.value (Operand.func 17), args := #[Operand.tmp 47, Operand.const (Value.int IntKind.i64 1), Operand.const (Value.int IntKind.i64 2)], argTypes := #[22, 3, 3] }, type := 3, pos := "laws.go:1158", after := #[{ on := 2, ground := Ground.data }], guard := none }) rfl fun K' hK => step_enterW (by rfl) 17 #[.slice B m cbp, .int .i64 ((1 : Nat) : Int), .int .i64 ((2 : Nat) : Int)] (by go_simp) ((unhide KA2 _ (bl_st hS0 (unhide B4))).mono ?_)
      rintro e w5 ⟨d, rfl, hd, b5⟩
      have s5 := bl_st b5 hS0
      have d0 : (0 : Int) ≤ (d : Int) := by omega
      have d1 : (d : Int) < 2 := by omega
      clear b5
      refine ⟨_, rfl, hK _ _ ⟨(fun _ => s5), ?_⟩⟩
      simp only [Act.put, List.setIfInBounds_toArray, List.set_cons_zero, List.set_cons_succ]
      refine wpAnyL_take (i := 4) (oi := { dst := some 49, op := Op.binOp BinOp.add 3 (Operand.tmp 46) (Operand.tmp 48) 3, type := 3, pos := "laws.go:1158", after := #[{ on := 1, ground := Ground.data }, { on := 3, ground := Ground.data }], guard := none }) (v := ?_) rfl (by kernel_rfl) (by kernel_rfl) (by kernel_rfl) (by kernel_rfl) (fun _ _ _ h => h) (Or.inl ⟨by rfl, ?_⟩) s5 ?_
      rotate_left
      · intro W hSw
        obtain ⟨_, c0, c1, c2, c3⟩ := (unhide HC4).below hSw
        go_simp
        try with_reducible rfl
      simp only [Act.put, List.setIfInBounds_toArray, List.set_cons_zero, List.set_cons_succ]
      refine wpAnyL_take (i := 8) (oi := { dst := some 53, op := Op.build 41 #[(0, Operand.tmp 49), (1, Operand.tmp 52), (2, Operand.const (Value.bool true)), (3, Operand.const (Value.string { data := #[98, 111, 100, 121] }))], type := 41, pos := "laws.go:1158", after := #[{ on := 4, ground := Ground.data }, { on := 7, ground := Ground.data }], guard := none }) (v := ?_) rfl (by kernel_rfl) (by kernel_rfl) (by kernel_rfl) (by kernel_rfl) (fun _ _ _ h => h) (Or.inl ⟨by rfl, ?_⟩) s5 ?_
      rotate_left
      · intro W hSw
        obtain ⟨_, c0, c1, c2, c3⟩ := (unhide HC4).below hSw
        go_simp
        try with_reducible rfl
      simp only [Act.put, List.setIfInBounds_toArray, List.set_cons_zero, List.set_cons_succ]
      refine wpAnyL_one (i := 9) (by kernel_rfl) ?_
      refine wpOp_step (o := { dst := some 9, op := Op.alloc 41, type := 0, pos := "laws.go:1158", after := #[], guard := none }) rfl fun K' hK => step_valueW (by rfl) (.pointer (some ⟨w5.heap.size, 0, none⟩)) (w5.alloc (.cells #[.int .i64 0, .int .i64 0, .bool false, .string ⟨#[]⟩] 41)) (by go_simp) ?_
      refine hK _ _ ⟨(fun _ => bl_al s5), ?_⟩
      simp only [Act.put, List.setIfInBounds_toArray, List.set_cons_zero, List.set_cons_succ]
      refine wpAnyL_one (i := 10) (by kernel_rfl) ?_
      refine wpOp_step (o := { dst := none, op := Op.store 41 (Operand.tmp 9) (Operand.tmp 53), type := 0, pos := "laws.go:1158", after := #[{ on := 9, ground := Ground.data }, { on := 8, ground := Ground.data }, { on := 3, ground := Ground.chain }, { on := 0, ground := Ground.phase }, { on := 1, ground := Ground.phase }, { on := 2, ground := Ground.phase }, { on := 3, ground := Ground.phase }, { on := 4, ground := Ground.phase }, { on := 5, ground := Ground.phase }, { on := 6, ground := Ground.phase }, { on := 7, ground := Ground.phase }, { on := 8, ground := Ground.phase }, { on := 9, ground := Ground.phase }], guard := none }) rfl fun K' hK => step_sRow (by rfl) 41 _ _ rfl w5.heap.size #[.int .i64 (p.e + d), .int .i64 (p.s + 5), .bool true, .string bodyT] (by go_simp) (by go_simp; exact ⟨by rw [IntKind.wrap_i64]; omega, by rw [IntKind.wrap_i64]; omega, rfl⟩) 41 _ (heap_alloc_last _ _) (by kernel_rfl) rfl (by kernel_rfl) ?_
      have S7 := hide (below_setRow (cs := #[.int .i64 (p.e + d), .int .i64 (p.s + 5), .bool true, .string bodyT]) (bl_al (o := .cells #[.int .i64 0, .int .i64 0, .bool false, .string ⟨#[]⟩] 41) s5) s5.size)
      have F7 := hide (fc_row (get_setRow (cs := #[.int .i64 (p.e + d), .int .i64 (p.s + 5), .bool true, .string bodyT]) (heap_alloc_last w5 (.cells #[.int .i64 0, .int .i64 0, .bool false, .string ⟨#[]⟩] 41))))
      refine hK _ _ ⟨(fun h => by cases h), ?_⟩
      simp only [Act.put]
      refine wpAnyL_done (by kernel_rfl) ?_ _
      generalize (w5.alloc (.cells #[.int .i64 0, .int .i64 0, .bool false, .string ⟨#[]⟩] 41)).setRow w5.heap.size #[.int .i64 (p.e + d), .int .i64 (p.s + 5), .bool true, .string bodyT] = w7 at *
      generalize w5.heap.size = fb at *
      clear s5
      exact main fb w7 d ⟨hd, S7, F7⟩
    case wB =>
      refine wpOp_step (o := { dst := some 9, op := Op.alloc 41, type := 0, pos := "laws.go:1158", after := #[], guard := none }) rfl fun K' hK => step_valueW (by rfl) (.pointer (some ⟨w4'.heap.size, 0, none⟩)) (w4'.alloc (.cells #[.int .i64 0, .int .i64 0, .bool false, .string ⟨#[]⟩] 41)) (by go_simp) ?_
      have r5 := heap_alloc_last w4' (.cells #[.int .i64 0, .int .i64 0, .bool false, .string ⟨#[]⟩] 41)
      have s4 := bl_al (o := .cells #[.int .i64 0, .int .i64 0, .bool false, .string ⟨#[]⟩] 41) hS0
      refine hK _ _ ⟨(fun _ => s4), ?_⟩
      simp only [Act.put, List.setIfInBounds_toArray, List.set_cons_zero, List.set_cons_succ]
      refine wpAnyL_one (i := 3) (by kernel_rfl) ?_
      refine wpOp_step (o := { dst := some 48, op := Op.call { callee := Callee.value (Operand.func 17), args := #[Operand.tmp 47, Operand.const (Value.int IntKind.i64 1), Operand.const (Value.int IntKind.i64 2)], argTypes := #[22, 3, 3] }, type := 3, pos := "laws.go:1158", after := #[{ on := 2, ground := Ground.data }], guard := none }) rfl fun K' hK => step_enterW (by rfl) 17 #[.slice B m cbp, .int .i64 ((1 : Nat) : Int), .int .i64 ((2 : Nat) : Int)] (by go_simp) ((unhide KA2 _ (bl_st s4 (unhide B4))).mono ?_)
      rintro e w5 ⟨d, rfl, hd, b5⟩
      have s5 := bl_st b5 s4
      have r5 := (b5.block _ (Array.getElem?_eq_some_iff.1 r5).1).trans r5
      have d0 : (0 : Int) ≤ (d : Int) := by omega
      have d1 : (d : Int) < 2 := by omega
      clear b5 s4
      refine ⟨_, rfl, hK _ _ ⟨(fun _ => s5), ?_⟩⟩
      simp only [Act.put, List.setIfInBounds_toArray, List.set_cons_zero, List.set_cons_succ]
      refine wpAnyL_take (i := 4) (oi := { dst := some 49, op := Op.binOp BinOp.add 3 (Operand.tmp 46) (Operand.tmp 48) 3, type := 3, pos := "laws.go:1158", after := #[{ on := 1, ground := Ground.data }, { on := 3, ground := Ground.data }], guard := none }) (v := ?_) rfl (by kernel_rfl) (by kernel_rfl) (by kernel_rfl) (by kernel_rfl) (fun _ _ _ h => h) (Or.inl ⟨by rfl, ?_⟩) s5 ?_
      rotate_left
      · intro W hSw
        obtain ⟨_, c0, c1, c2, c3⟩ := (unhide HC4).below hSw
        go_simp
        try with_reducible rfl
      simp only [Act.put, List.setIfInBounds_toArray, List.set_cons_zero, List.set_cons_succ]
      refine wpAnyL_take (i := 8) (oi := { dst := some 53, op := Op.build 41 #[(0, Operand.tmp 49), (1, Operand.tmp 52), (2, Operand.const (Value.bool true)), (3, Operand.const (Value.string { data := #[98, 111, 100, 121] }))], type := 41, pos := "laws.go:1158", after := #[{ on := 4, ground := Ground.data }, { on := 7, ground := Ground.data }], guard := none }) (v := ?_) rfl (by kernel_rfl) (by kernel_rfl) (by kernel_rfl) (by kernel_rfl) (fun _ _ _ h => h) (Or.inl ⟨by rfl, ?_⟩) s5 ?_
      rotate_left
      · intro W hSw
        obtain ⟨_, c0, c1, c2, c3⟩ := (unhide HC4).below hSw
        go_simp
        try with_reducible rfl
      simp only [Act.put, List.setIfInBounds_toArray, List.set_cons_zero, List.set_cons_succ]
      refine wpAnyL_one (i := 10) (by kernel_rfl) ?_
      refine wpOp_step (o := { dst := none, op := Op.store 41 (Operand.tmp 9) (Operand.tmp 53), type := 0, pos := "laws.go:1158", after := #[{ on := 9, ground := Ground.data }, { on := 8, ground := Ground.data }, { on := 3, ground := Ground.chain }, { on := 0, ground := Ground.phase }, { on := 1, ground := Ground.phase }, { on := 2, ground := Ground.phase }, { on := 3, ground := Ground.phase }, { on := 4, ground := Ground.phase }, { on := 5, ground := Ground.phase }, { on := 6, ground := Ground.phase }, { on := 7, ground := Ground.phase }, { on := 8, ground := Ground.phase }, { on := 9, ground := Ground.phase }], guard := none }) rfl fun K' hK => step_sRow (by rfl) 41 _ _ rfl w4'.heap.size #[.int .i64 (p.e + d), .int .i64 (p.s + 5), .bool true, .string bodyT] (by go_simp) (by go_simp; exact ⟨by rw [IntKind.wrap_i64]; omega, by rw [IntKind.wrap_i64]; omega, rfl⟩) 41 _ (r5) (by kernel_rfl) rfl (by kernel_rfl) ?_
      have S7 := hide (below_setRow (cs := #[.int .i64 (p.e + d), .int .i64 (p.s + 5), .bool true, .string bodyT]) s5 hS0.size)
      have F7 := hide (fc_row (get_setRow (cs := #[.int .i64 (p.e + d), .int .i64 (p.s + 5), .bool true, .string bodyT]) r5))
      refine hK _ _ ⟨(fun h => by cases h), ?_⟩
      simp only [Act.put]
      refine wpAnyL_done (by kernel_rfl) ?_ _
      have F7 : Hid (FC w4'.heap.size (p.e + d) (p.s + 5) true bodyT (w5.setRow w4'.heap.size #[.int .i64 (p.e + d), .int .i64 (p.s + 5), .bool true, .string bodyT])) := F7
      generalize w5.setRow w4'.heap.size #[.int .i64 (p.e + d), .int .i64 (p.s + 5), .bool true, .string bodyT] = w7 at *
      obtain ⟨fb, hfb⟩ : ∃ fb, fb = w4'.heap.size := ⟨_, rfl⟩
      rw [← hfb] at F7 ⊢
      clear s5 r5 hfb
      exact main fb w7 d ⟨hd, S7, F7⟩
  case m =>
    intro fb w7 d hh
    obtain ⟨hd, S7, F7⟩ := hh
    have d0 : (0 : Int) ≤ (d : Int) := by omega
    have d1 : (d : Int) < 2 := by omega
    have B := hide (bl_st (unhide S7) (unhide B4))
    have V8 := hide ((unhide V4).below (unhide S7))
    have C8 := hide ((unhide HC4).below (unhide S7))
    have F9 := F7
    generalize w3.heap.size = b8 at *
    clear S7 B4 V4 HC4 F7 Z4 KA2 hS0
    have HD := hide hd
    have HFB : Hid (bodyT.size ≤ maxLen) := hide (by decide)
    have HMB : Hid (moreT.size ≤ maxLen) := hide (by decide)
    have HYO := hide (nxK_ok (d := d) (unhide HPR))
    have HYQ : Hid ((nxK p d).q = p.q) := hide (by unfold nxK; split <;> rfl)
    have HY1 : Hid (d = 1 → nxK p d = p) := hide (fun h => by unfold nxK; rw [if_neg (by omega)])
    have HY0 : Hid (d = 0 → ((nxK p d).i.length = if p.i.length < 100 then p.i.length + 1 else p.i.length)) := hide (fun h => by unfold nxK; subst h; split <;> simp_all)
    have KY1 := hide (fun u W (h : peV W u p) => by have K := pin18 u p (frK p d) W h (ok_few' (unhide HPR).ok) (unhide HFB); rw [inR1 (unhide HPR) (unhide HD)] at K; exact K)
    have KY2 := hide (fun u W (h : peV W u p) (hc : capQ u p) => by have K := pin19 u p (frK p d) W h hc (ok_few' (unhide HPR).ok) (unhide HFB); rw [inR1 (unhide HPR) (unhide HD)] at K; exact K)
    have KY3 := hide (fun u W (h : peV W u (nxK p d)) => by have K := pin18 u (nxK p d) (frK p d) W h (ok_few' (unhide HYO)) (unhide HFB); rw [inR2 (unhide HPR) (unhide HD)] at K; exact K)
    generalize nxK p d = y at *
    obtain ⟨_, x8a, x8b, x8c, x8d⟩ := unhide C8
    obtain ⟨_, x9a, x9b, x9c, x9d⟩ := unhide F9
    go_wp2_with fail
    have K := hide (unhide KY1 _ _ (unhide V8))
    refine (unhide K).mono ?_
    clear x8a x8b x8c x8d x9a x9b x9c x9d
    rintro e u10 ⟨r, rfl, oo, bb⟩
    have oo := oo.pe
    clear K
    have B := hide (bl_st bb (unhide B))
    have V8 := hide ((unhide V8).below bb)
    have C8 := hide ((unhide C8).below bb)
    have F9 := hide ((unhide F9).below bb)
    clear bb
    obtain ⟨qq, ii, rfl, hq, hi⟩ := oo
    obtain ⟨A10, a10, rfl⟩ := hq.slice
    obtain ⟨D10, g10, rfl⟩ := hi.slice
    have bb := bl_al (o := .cells #[.slice A10 y.q.length a10, .int .i64 y.s, .int .i64 y.e, .slice D10 y.i.length g10] 33) (Below.refl u10.heap.size u10)
    have V10 := hide ((show peV u10 (peA (.slice A10 y.q.length a10) y.s y.e (.slice D10 y.i.length g10)) y from ⟨_, _, rfl, hq, hi⟩).below bb)
    have C10 := hide (pc_new u10 (.slice A10 y.q.length a10) y.s y.e (.slice D10 y.i.length g10) 33)
    have B := hide (bl_st bb (unhide B))
    have V8 := hide ((unhide V8).below bb)
    have C8 := hide ((unhide C8).below bb)
    have F9 := hide ((unhide F9).below bb)
    clear bb hq hi
    have MARK : True := trivial
    go_wp2_with (with_reducible change wpList _ _ _ ({ dst := some 61, op := _, type := _, pos := _, after := _, guard := _ } :: _) _ _; clear MARK; generalize u10.alloc (.cells #[.slice A10 y.q.length a10, .int .i64 y.s, .int .i64 y.e, .slice D10 y.i.length g10] 33) = v10 at *; generalize u10.heap.size = b10 at *; obtain ⟨_, x8a, x8b, x8c, x8d⟩ := unhide C8; obtain ⟨_, x9a, x9b, x9c, x9d⟩ := unhide F9)
    have K := hide (unhide KY2 _ _ (unhide V8) (unhide HPC))
    refine (unhide K).mono ?_
    clear x8a x8b x8c x8d x9a x9b x9c x9d
    rintro e u12 ⟨r, rfl, oo, bb⟩
    have oo := oo.pe
    clear K
    have B := hide (bl_st bb (unhide B))
    have V8 := hide ((unhide V8).below bb)
    have C8 := hide ((unhide C8).below bb)
    have F9 := hide ((unhide F9).below bb)
    have V10 := hide ((unhide V10).below bb)
    have C10 := hide ((unhide C10).below bb)
    clear bb
    obtain ⟨qq, ii, rfl, hq, hi⟩ := oo
    obtain ⟨A12, a12, rfl⟩ := hq.slice
    obtain ⟨D12, g12, rfl⟩ := hi.slice
    have bb := bl_al (o := .cells #[.slice A12 y.q.length a12, .int .i64 y.s, .int .i64 y.e, .slice D12 y.i.length g12] 33) (Below.refl u12.heap.size u12)
    have V12 := hide ((show peV u12 (peA (.slice A12 y.q.length a12) y.s y.e (.slice D12 y.i.length g12)) y from ⟨_, _, rfl, hq, hi⟩).below bb)
    have C12 := hide (pc_new u12 (.slice A12 y.q.length a12) y.s y.e (.slice D12 y.i.length g12) 33)
    have B := hide (bl_st bb (unhide B))
    have V8 := hide ((unhide V8).below bb)
    have C8 := hide ((unhide C8).below bb)
    have F9 := hide ((unhide F9).below bb)
    have V10 := hide ((unhide V10).below bb)
    have C10 := hide ((unhide C10).below bb)
    clear bb hq hi
    have MARK : True := trivial
    go_wp2_with (with_reducible change wpList _ _ _ ({ dst := some 67, op := _, type := _, pos := _, after := _, guard := _ } :: _) _ _; clear MARK; generalize u12.alloc (.cells #[.slice A12 y.q.length a12, .int .i64 y.s, .int .i64 y.e, .slice D12 y.i.length g12] 33) = v12 at *; generalize u12.heap.size = b12 at *; obtain ⟨_, x10a, x10b, x10c, x10d⟩ := unhide C10; obtain ⟨_, x9a, x9b, x9c, x9d⟩ := unhide F9)
    have K := hide (unhide KY3 _ _ (unhide V10))
    refine (unhide K).mono ?_
    clear x10a x10b x10c x10d x9a x9b x9c x9d
    rintro e u14 ⟨r, rfl, oo, bb⟩
    have oo := oo.pe
    clear K
    have B := hide (bl_st bb (unhide B))
    have V8 := hide ((unhide V8).below bb)
    have C8 := hide ((unhide C8).below bb)
    have F9 := hide ((unhide F9).below bb)
    have V10 := hide ((unhide V10).below bb)
    have C10 := hide ((unhide C10).below bb)
    have V12 := hide ((unhide V12).below bb)
    have C12 := hide ((unhide C12).below bb)
    clear bb
    obtain ⟨qq, ii, rfl, hq, hi⟩ := oo
    obtain ⟨A14, a14, rfl⟩ := hq.slice
    obtain ⟨D14, g14, rfl⟩ := hi.slice
    have bb := bl_al (o := .cells #[.slice A14 y.q.length a14, .int .i64 y.s, .int .i64 y.e, .slice D14 y.i.length g14] 33) (Below.refl u14.heap.size u14)
    have V14 := hide ((show peV u14 (peA (.slice A14 y.q.length a14) y.s y.e (.slice D14 y.i.length g14)) y from ⟨_, _, rfl, hq, hi⟩).below bb)
    have C14 := hide (pc_new u14 (.slice A14 y.q.length a14) y.s y.e (.slice D14 y.i.length g14) 33)
    have B := hide (bl_st bb (unhide B))
    have V8 := hide ((unhide V8).below bb)
    have C8 := hide ((unhide C8).below bb)
    have F9 := hide ((unhide F9).below bb)
    have V10 := hide ((unhide V10).below bb)
    have C10 := hide ((unhide C10).below bb)
    have V12 := hide ((unhide V12).below bb)
    have C12 := hide ((unhide C12).below bb)
    clear bb hq hi
    have MARK : True := trivial
    go_wp2_with (with_reducible change wpList _ _ _ ({ dst := some 79, op := _, type := _, pos := _, after := _, guard := _ } :: _) _ _; clear MARK; generalize u14.alloc (.cells #[.slice A14 y.q.length a14, .int .i64 y.s, .int .i64 y.e, .slice D14 y.i.length g14] 33) = v14 at *; generalize u14.heap.size = b14 at *; obtain ⟨_, x10a, x10b, x10c, x10d⟩ := unhide C10; obtain ⟨_, x12a, x12b, x12c, x12d⟩ := unhide C12)
    clear KY1 KY2 KY3
    have K := hide (same15 _ _ y _ (unhide V10) (unhide V12) (ok_few' (unhide HYO)))
    refine (unhide K).mono ?_
    clear x10a x10b x10c x10d x12a x12b x12c x12d
    rintro e u15 ⟨rfl, bb⟩
    clear K
    have B := hide (bl_st bb (unhide B))
    have V8 := hide ((unhide V8).below bb)
    have C8 := hide ((unhide C8).below bb)
    have F9 := hide ((unhide F9).below bb)
    have V10 := hide ((unhide V10).below bb)
    have C10 := hide ((unhide C10).below bb)
    have V12 := hide ((unhide V12).below bb)
    have C12 := hide ((unhide C12).below bb)
    have V14 := hide ((unhide V14).below bb)
    have C14 := hide ((unhide C14).below bb)
    clear bb
    obtain ⟨_, x14a, x14b, x14c, x14d⟩ := unhide C14
    obtain ⟨_, x8a, x8b, x8c, x8d⟩ := unhide C8
    go_wp2_with fail
    have K := hide (same20 (.slice A14 y.q.length a14) (.slice A1 p.q.length ca) p.q _ (by rw [← unhide HYQ]; exact peV_q (unhide V14)) (peV_q (unhide V8)) (by have := ok_few (unhide HPR).ok; omega))
    refine (unhide K).mono ?_
    clear x14a x14b x14c x14d x8a x8b x8c x8d
    rintro e u16 ⟨rfl, k16, hk16⟩
    have bb : Below u15.heap.size u15 u16 := by rw [hk16]; exact below_drewN (Below.refl _ _) _
    clear K hk16
    have B := hide (bl_st bb (unhide B))
    have V8 := hide ((unhide V8).below bb)
    have C8 := hide ((unhide C8).below bb)
    have F9 := hide ((unhide F9).below bb)
    have V10 := hide ((unhide V10).below bb)
    have C10 := hide ((unhide C10).below bb)
    have V12 := hide ((unhide V12).below bb)
    have C12 := hide ((unhide C12).below bb)
    have V14 := hide ((unhide V14).below bb)
    have C14 := hide ((unhide C14).below bb)
    clear bb
    generalize hfs : p.e + (d : Int) = fs at *
    rcases (by have := unhide HD; omega : d = 1 ∨ d = 0) with hd1 | hd0
    · have hyp := unhide HY1 hd1
      have hne : fs ≠ p.e := by omega
      subst hyp
      clear hfs hd1
      obtain ⟨_, x9a, x9b, x9c, x9d⟩ := unhide F9
      obtain ⟨_, x8a, x8b, x8c, x8d⟩ := unhide C8
      obtain ⟨_, x10a, x10b, x10c, x10d⟩ := unhide C10
      go_wp2_with fail
      have K := hide (same15 _ _ _ _ (unhide V10) (unhide V8) (ok_few' (unhide HPR).ok))
      refine (unhide K).mono ?_
      clear x9a x9b x9c x9d x8a x8b x8c x8d x10a x10b x10c x10d
      rintro e u17 ⟨rfl, bb⟩
      clear K
      have B := hide (bl_st bb (unhide B))
      have V8 := hide ((unhide V8).below bb)
      have C8 := hide ((unhide C8).below bb)
      have F9 := hide ((unhide F9).below bb)
      have V10 := hide ((unhide V10).below bb)
      have C10 := hide ((unhide C10).below bb)
      have V12 := hide ((unhide V12).below bb)
      have C12 := hide ((unhide C12).below bb)
      have V14 := hide ((unhide V14).below bb)
      have C14 := hide ((unhide C14).below bb)
      clear bb
      obtain ⟨_, x14a, x14b, x14c, x14d⟩ := unhide C14
      obtain ⟨_, x8a, x8b, x8c, x8d⟩ := unhide C8
      go_wp2_with fail
      have K := hide (same15 _ _ _ _ (unhide V14) (unhide V8) (ok_few' (unhide HPR).ok))
      refine (unhide K).mono ?_
      clear x14a x14b x14c x14d x8a x8b x8c x8d
      rintro e u18 ⟨rfl, bb⟩
      clear K
      have B := hide (bl_st bb (unhide B))
      have V8 := hide ((unhide V8).below bb)
      have C8 := hide ((unhide C8).below bb)
      have F9 := hide ((unhide F9).below bb)
      have V10 := hide ((unhide V10).below bb)
      have C10 := hide ((unhide C10).below bb)
      have V12 := hide ((unhide V12).below bb)
      have C12 := hide ((unhide C12).below bb)
      have V14 := hide ((unhide V14).below bb)
      have C14 := hide ((unhide C14).below bb)
      clear bb
      go_wp2_with fail
      go_ret
      exact ⟨rfl, unhide B⟩
    have hy0 := unhide HY0 hd0
    obtain rfl : fs = p.e := by omega
    clear hfs hd0
    have l0 : (0 : Int) ≤ (p.i.length : Int) := by omega
    have l9 : (p.i.length : Int) ≤ 100 := by have := ok_few (unhide HPR).ok; omega
    obtain ⟨x, cd, hd0, KS1, KS2, KO1, KO2, HXO⟩ := say_all (unhide HPR)
    rcases Nat.lt_or_ge p.i.length 100 with hl | hl
    · rw [if_pos hl] at hy0
      have l1 : (p.i.length : Int) < 100 := by omega
      have l2 : (y.i.length : Int) = (p.i.length : Int) + 1 := by omega
      clear hl hy0
      obtain ⟨_, x9a, x9b, x9c, x9d⟩ := unhide F9
      obtain ⟨_, x8a, x8b, x8c, x8d⟩ := unhide C8
      obtain ⟨_, x10a, x10b, x10c, x10d⟩ := unhide C10
      obtain ⟨_, x14a, x14b, x14c, x14d⟩ := unhide C14
      go_wp2_with fail
      have K := hide (unhide KS1 _ _ (unhide V8))
      clear x9a x9b x9c x9d x10a x10b x10c x10d x14a x14b x14c x14d
      refine (unhide K).mono ?_
      clear x8a x8b x8c x8d
      rintro e u17 ⟨r, rfl, oo, bb⟩
      have oo := oo.pe
      clear K
      have B := hide (bl_st bb (unhide B))
      have V8 := hide ((unhide V8).below bb)
      have C8 := hide ((unhide C8).below bb)
      have F9 := hide ((unhide F9).below bb)
      have V10 := hide ((unhide V10).below bb)
      have C10 := hide ((unhide C10).below bb)
      have V12 := hide ((unhide V12).below bb)
      have C12 := hide ((unhide C12).below bb)
      have V14 := hide ((unhide V14).below bb)
      have C14 := hide ((unhide C14).below bb)
      clear bb
      obtain ⟨qq, ii, rfl, hq, hi⟩ := oo
      obtain ⟨A17, a17, rfl⟩ := hq.slice
      obtain ⟨D17, g17, rfl⟩ := hi.slice
      have bb := bl_al (o := .cells #[.slice A17 x.q.length a17, .int .i64 x.s, .int .i64 x.e, .slice D17 x.i.length g17] 33) (Below.refl u17.heap.size u17)
      have V17 := hide ((show peV u17 (peA (.slice A17 x.q.length a17) x.s x.e (.slice D17 x.i.length g17)) x from ⟨_, _, rfl, hq, hi⟩).below bb)
      have C17 := hide (pc_new u17 (.slice A17 x.q.length a17) x.s x.e (.slice D17 x.i.length g17) 33)
      have B := hide (bl_st bb (unhide B))
      have V8 := hide ((unhide V8).below bb)
      have C8 := hide ((unhide C8).below bb)
      have F9 := hide ((unhide F9).below bb)
      have V10 := hide ((unhide V10).below bb)
      have C10 := hide ((unhide C10).below bb)
      have V12 := hide ((unhide V12).below bb)
      have C12 := hide ((unhide C12).below bb)
      have V14 := hide ((unhide V14).below bb)
      have C14 := hide ((unhide C14).below bb)
      clear bb hq hi
      have MARK : True := trivial
      go_wp2_with (with_reducible change wpList _ _ _ ({ dst := some 134, op := _, type := _, pos := _, after := _, guard := _ } :: _) _ _; clear MARK; generalize u17.alloc (.cells #[.slice A17 x.q.length a17, .int .i64 x.s, .int .i64 x.e, .slice D17 x.i.length g17] 33) = v17 at *; generalize u17.heap.size = b17 at *; obtain ⟨_, x8a, x8b, x8c, x8d⟩ := unhide C8)
      have K := hide (unhide KS2 _ _ (unhide V8))
      refine (unhide K).mono ?_
      clear x8a x8b x8c x8d
      rintro e u19 ⟨r, rfl, oo, bb⟩
      clear K
      have B := hide (bl_st bb (unhide B))
      have V8 := hide ((unhide V8).below bb)
      have C8 := hide ((unhide C8).below bb)
      have F9 := hide ((unhide F9).below bb)
      have V10 := hide ((unhide V10).below bb)
      have C10 := hide ((unhide C10).below bb)
      have V12 := hide ((unhide V12).below bb)
      have C12 := hide ((unhide C12).below bb)
      have V14 := hide ((unhide V14).below bb)
      have C14 := hide ((unhide C14).below bb)
      have V17 := hide ((unhide V17).below bb)
      have C17 := hide ((unhide C17).below bb)
      clear bb
      obtain ⟨qq, ii, rfl, hq, hi⟩ := oo
      obtain ⟨A19, a19, rfl⟩ := hq.slice
      obtain ⟨D19, g19, rfl⟩ := hi.slice
      have bb := bl_al (o := .cells #[.slice A19 x.q.length a19, .int .i64 x.s, .int .i64 x.e, .slice D19 x.i.length g19] 33) (Below.refl u19.heap.size u19)
      have V19 := hide ((show peV u19 (peA (.slice A19 x.q.length a19) x.s x.e (.slice D19 x.i.length g19)) x from ⟨_, _, rfl, hq, hi⟩).below bb)
      have C19 := hide (pc_new u19 (.slice A19 x.q.length a19) x.s x.e (.slice D19 x.i.length g19) 33)
      have B := hide (bl_st bb (unhide B))
      have V8 := hide ((unhide V8).below bb)
      have C8 := hide ((unhide C8).below bb)
      have F9 := hide ((unhide F9).below bb)
      have V10 := hide ((unhide V10).below bb)
      have C10 := hide ((unhide C10).below bb)
      have V12 := hide ((unhide V12).below bb)
      have C12 := hide ((unhide C12).below bb)
      have V14 := hide ((unhide V14).below bb)
      have C14 := hide ((unhide C14).below bb)
      have V17 := hide ((unhide V17).below bb)
      have C17 := hide ((unhide C17).below bb)
      clear bb hq hi
      have MARK : True := trivial
      go_wp2_with (with_reducible change wpList _ _ _ ({ dst := some 139, op := _, type := _, pos := _, after := _, guard := _ } :: _) _ _; clear MARK; generalize u19.alloc (.cells #[.slice A19 x.q.length a19, .int .i64 x.s, .int .i64 x.e, .slice D19 x.i.length g19] 33) = v19 at *; generalize u19.heap.size = b19 at *; obtain ⟨_, x17a, x17b, x17c, x17d⟩ := unhide C17)
      have K := hide (unhide KO1 _ _ (unhide V17))
      refine (unhide K).mono ?_
      clear x17a x17b x17c x17d
      rintro e u21 ⟨rfl, bb⟩
      clear K
      have B := hide (bl_st bb (unhide B))
      have V8 := hide ((unhide V8).below bb)
      have C8 := hide ((unhide C8).below bb)
      have F9 := hide ((unhide F9).below bb)
      have V10 := hide ((unhide V10).below bb)
      have C10 := hide ((unhide C10).below bb)
      have V12 := hide ((unhide V12).below bb)
      have C12 := hide ((unhide C12).below bb)
      have V14 := hide ((unhide V14).below bb)
      have C14 := hide ((unhide C14).below bb)
      have V17 := hide ((unhide V17).below bb)
      have C17 := hide ((unhide C17).below bb)
      have V19 := hide ((unhide V19).below bb)
      have C19 := hide ((unhide C19).below bb)
      clear bb
      have bb := bl_al (o := .cells #[.int .i64 p.s, .int .i64 p.e, .bool true, .string hd0] 41) (Below.refl u21.heap.size u21)
      have F21 := hide (fc_new u21 p.s p.e true hd0 41)
      have B := hide (bl_st bb (unhide B))
      have V8 := hide ((unhide V8).below bb)
      have C8 := hide ((unhide C8).below bb)
      have F9 := hide ((unhide F9).below bb)
      have V10 := hide ((unhide V10).below bb)
      have C10 := hide ((unhide C10).below bb)
      have V12 := hide ((unhide V12).below bb)
      have C12 := hide ((unhide C12).below bb)
      have V14 := hide ((unhide V14).below bb)
      have C14 := hide ((unhide C14).below bb)
      have V17 := hide ((unhide V17).below bb)
      have C17 := hide ((unhide C17).below bb)
      have V19 := hide ((unhide V19).below bb)
      have C19 := hide ((unhide C19).below bb)
      clear bb
      have MARK : True := trivial
      go_wp2_with (with_reducible change wpList _ _ _ ({ dst := some 144, op := _, type := _, pos := _, after := _, guard := _ } :: _) _ _; clear MARK; generalize u21.alloc (.cells #[.int .i64 p.s, .int .i64 p.e, .bool true, .string hd0] 41) = v21 at *; generalize u21.heap.size = b21 at *; obtain ⟨_, x19a, x19b, x19c, x19d⟩ := unhide C19)
      have K := hide (unhide KO2 _ _ (unhide V19))
      refine (unhide K).mono ?_
      clear x19a x19b x19c x19d
      rintro e u23 ⟨rfl, bb⟩
      clear K
      have B := hide (bl_st bb (unhide B))
      have V8 := hide ((unhide V8).below bb)
      have C8 := hide ((unhide C8).below bb)
      have F9 := hide ((unhide F9).below bb)
      have V10 := hide ((unhide V10).below bb)
      have C10 := hide ((unhide C10).below bb)
      have V12 := hide ((unhide V12).below bb)
      have C12 := hide ((unhide C12).below bb)
      have V14 := hide ((unhide V14).below bb)
      have C14 := hide ((unhide C14).below bb)
      have V17 := hide ((unhide V17).below bb)
      have C17 := hide ((unhide C17).below bb)
      have V19 := hide ((unhide V19).below bb)
      have C19 := hide ((unhide C19).below bb)
      have F21 := hide ((unhide F21).below bb)
      clear bb
      have bb := bl_al (o := .cells #[.int .i64 p.s, .int .i64 p.e, .bool true, .string hd0] 41) (Below.refl u23.heap.size u23)
      have F23 := hide (fc_new u23 p.s p.e true hd0 41)
      have B := hide (bl_st bb (unhide B))
      have V8 := hide ((unhide V8).below bb)
      have C8 := hide ((unhide C8).below bb)
      have F9 := hide ((unhide F9).below bb)
      have V10 := hide ((unhide V10).below bb)
      have C10 := hide ((unhide C10).below bb)
      have V12 := hide ((unhide V12).below bb)
      have C12 := hide ((unhide C12).below bb)
      have V14 := hide ((unhide V14).below bb)
      have C14 := hide ((unhide C14).below bb)
      have V17 := hide ((unhide V17).below bb)
      have C17 := hide ((unhide C17).below bb)
      have V19 := hide ((unhide V19).below bb)
      have C19 := hide ((unhide C19).below bb)
      have F21 := hide ((unhide F21).below bb)
      clear bb
      have MARK : True := trivial
      go_wp2_with (with_reducible change wpList _ _ _ ({ dst := some 152, op := _, type := _, pos := _, after := _, guard := _ } :: _) _ _; clear MARK; generalize u23.alloc (.cells #[.int .i64 p.s, .int .i64 p.e, .bool true, .string hd0] 41) = v23 at *; generalize u23.heap.size = b23 at *; obtain ⟨_, x17a, x17b, x17c, x17d⟩ := unhide C17; obtain ⟨_, x19a, x19b, x19c, x19d⟩ := unhide C19)
      have K := hide (same15 _ _ _ _ (unhide V17) (unhide V19) (unhide HXO))
      refine (unhide K).mono ?_
      clear x17a x17b x17c x17d x19a x19b x19c x19d
      rintro e u25 ⟨rfl, bb⟩
      clear K
      have B := hide (bl_st bb (unhide B))
      have V8 := hide ((unhide V8).below bb)
      have C8 := hide ((unhide C8).below bb)
      have F9 := hide ((unhide F9).below bb)
      have V10 := hide ((unhide V10).below bb)
      have C10 := hide ((unhide C10).below bb)
      have V12 := hide ((unhide V12).below bb)
      have C12 := hide ((unhide C12).below bb)
      have V14 := hide ((unhide V14).below bb)
      have C14 := hide ((unhide C14).below bb)
      have V17 := hide ((unhide V17).below bb)
      have C17 := hide ((unhide C17).below bb)
      have V19 := hide ((unhide V19).below bb)
      have C19 := hide ((unhide C19).below bb)
      have F21 := hide ((unhide F21).below bb)
      have F23 := hide ((unhide F23).below bb)
      clear bb
      obtain ⟨_, x21a, x21b, x21c, x21d⟩ := unhide F21
      obtain ⟨_, x23a, x23b, x23c, x23d⟩ := unhide F23
      obtain ⟨_, x8a, x8b, x8c, x8d⟩ := unhide C8
      go_wp2_with fail
      go_ret
      exact ⟨rfl, unhide B⟩
    · rw [if_neg (by omega)] at hy0
      have l1 : (100 : Int) ≤ (p.i.length : Int) := by omega
      have l2 : (y.i.length : Int) = (p.i.length : Int) := by omega
      clear hl hy0
      obtain ⟨_, x9a, x9b, x9c, x9d⟩ := unhide F9
      obtain ⟨_, x8a, x8b, x8c, x8d⟩ := unhide C8
      obtain ⟨_, x10a, x10b, x10c, x10d⟩ := unhide C10
      obtain ⟨_, x14a, x14b, x14c, x14d⟩ := unhide C14
      go_wp2_with fail
      have K := hide (unhide KS1 _ _ (unhide V8))
      clear x9a x9b x9c x9d x10a x10b x10c x10d x14a x14b x14c x14d
      refine (unhide K).mono ?_
      clear x8a x8b x8c x8d
      rintro e u17 ⟨r, rfl, oo, bb⟩
      have oo := oo.pe
      clear K
      have B := hide (bl_st bb (unhide B))
      have V8 := hide ((unhide V8).below bb)
      have C8 := hide ((unhide C8).below bb)
      have F9 := hide ((unhide F9).below bb)
      have V10 := hide ((unhide V10).below bb)
      have C10 := hide ((unhide C10).below bb)
      have V12 := hide ((unhide V12).below bb)
      have C12 := hide ((unhide C12).below bb)
      have V14 := hide ((unhide V14).below bb)
      have C14 := hide ((unhide C14).below bb)
      clear bb
      obtain ⟨qq, ii, rfl, hq, hi⟩ := oo
      obtain ⟨A17, a17, rfl⟩ := hq.slice
      obtain ⟨D17, g17, rfl⟩ := hi.slice
      have bb := bl_al (o := .cells #[.slice A17 x.q.length a17, .int .i64 x.s, .int .i64 x.e, .slice D17 x.i.length g17] 33) (Below.refl u17.heap.size u17)
      have V17 := hide ((show peV u17 (peA (.slice A17 x.q.length a17) x.s x.e (.slice D17 x.i.length g17)) x from ⟨_, _, rfl, hq, hi⟩).below bb)
      have C17 := hide (pc_new u17 (.slice A17 x.q.length a17) x.s x.e (.slice D17 x.i.length g17) 33)
      have B := hide (bl_st bb (unhide B))
      have V8 := hide ((unhide V8).below bb)
      have C8 := hide ((unhide C8).below bb)
      have F9 := hide ((unhide F9).below bb)
      have V10 := hide ((unhide V10).below bb)
      have C10 := hide ((unhide C10).below bb)
      have V12 := hide ((unhide V12).below bb)
      have C12 := hide ((unhide C12).below bb)
      have V14 := hide ((unhide V14).below bb)
      have C14 := hide ((unhide C14).below bb)
      clear bb hq hi
      have MARK : True := trivial
      go_wp2_with (with_reducible change wpList _ _ _ ({ dst := some 134, op := _, type := _, pos := _, after := _, guard := _ } :: _) _ _; clear MARK; generalize u17.alloc (.cells #[.slice A17 x.q.length a17, .int .i64 x.s, .int .i64 x.e, .slice D17 x.i.length g17] 33) = v17 at *; generalize u17.heap.size = b17 at *; obtain ⟨_, x8a, x8b, x8c, x8d⟩ := unhide C8)
      have K := hide (unhide KS2 _ _ (unhide V8))
      refine (unhide K).mono ?_
      clear x8a x8b x8c x8d
      rintro e u19 ⟨r, rfl, oo, bb⟩
      clear K
      have B := hide (bl_st bb (unhide B))
      have V8 := hide ((unhide V8).below bb)
      have C8 := hide ((unhide C8).below bb)
      have F9 := hide ((unhide F9).below bb)
      have V10 := hide ((unhide V10).below bb)
      have C10 := hide ((unhide C10).below bb)
      have V12 := hide ((unhide V12).below bb)
      have C12 := hide ((unhide C12).below bb)
      have V14 := hide ((unhide V14).below bb)
      have C14 := hide ((unhide C14).below bb)
      have V17 := hide ((unhide V17).below bb)
      have C17 := hide ((unhide C17).below bb)
      clear bb
      obtain ⟨qq, ii, rfl, hq, hi⟩ := oo
      obtain ⟨A19, a19, rfl⟩ := hq.slice
      obtain ⟨D19, g19, rfl⟩ := hi.slice
      have bb := bl_al (o := .cells #[.slice A19 x.q.length a19, .int .i64 x.s, .int .i64 x.e, .slice D19 x.i.length g19] 33) (Below.refl u19.heap.size u19)
      have V19 := hide ((show peV u19 (peA (.slice A19 x.q.length a19) x.s x.e (.slice D19 x.i.length g19)) x from ⟨_, _, rfl, hq, hi⟩).below bb)
      have C19 := hide (pc_new u19 (.slice A19 x.q.length a19) x.s x.e (.slice D19 x.i.length g19) 33)
      have B := hide (bl_st bb (unhide B))
      have V8 := hide ((unhide V8).below bb)
      have C8 := hide ((unhide C8).below bb)
      have F9 := hide ((unhide F9).below bb)
      have V10 := hide ((unhide V10).below bb)
      have C10 := hide ((unhide C10).below bb)
      have V12 := hide ((unhide V12).below bb)
      have C12 := hide ((unhide C12).below bb)
      have V14 := hide ((unhide V14).below bb)
      have C14 := hide ((unhide C14).below bb)
      have V17 := hide ((unhide V17).below bb)
      have C17 := hide ((unhide C17).below bb)
      clear bb hq hi
      have MARK : True := trivial
      go_wp2_with (with_reducible change wpList _ _ _ ({ dst := some 139, op := _, type := _, pos := _, after := _, guard := _ } :: _) _ _; clear MARK; generalize u19.alloc (.cells #[.slice A19 x.q.length a19, .int .i64 x.s, .int .i64 x.e, .slice D19 x.i.length g19] 33) = v19 at *; generalize u19.heap.size = b19 at *; obtain ⟨_, x17a, x17b, x17c, x17d⟩ := unhide C17)
      have K := hide (unhide KO1 _ _ (unhide V17))
      refine (unhide K).mono ?_
      clear x17a x17b x17c x17d
      rintro e u21 ⟨rfl, bb⟩
      clear K
      have B := hide (bl_st bb (unhide B))
      have V8 := hide ((unhide V8).below bb)
      have C8 := hide ((unhide C8).below bb)
      have F9 := hide ((unhide F9).below bb)
      have V10 := hide ((unhide V10).below bb)
      have C10 := hide ((unhide C10).below bb)
      have V12 := hide ((unhide V12).below bb)
      have C12 := hide ((unhide C12).below bb)
      have V14 := hide ((unhide V14).below bb)
      have C14 := hide ((unhide C14).below bb)
      have V17 := hide ((unhide V17).below bb)
      have C17 := hide ((unhide C17).below bb)
      have V19 := hide ((unhide V19).below bb)
      have C19 := hide ((unhide C19).below bb)
      clear bb
      have bb := bl_al (o := .cells #[.int .i64 p.s, .int .i64 p.e, .bool true, .string hd0] 41) (Below.refl u21.heap.size u21)
      have F21 := hide (fc_new u21 p.s p.e true hd0 41)
      have B := hide (bl_st bb (unhide B))
      have V8 := hide ((unhide V8).below bb)
      have C8 := hide ((unhide C8).below bb)
      have F9 := hide ((unhide F9).below bb)
      have V10 := hide ((unhide V10).below bb)
      have C10 := hide ((unhide C10).below bb)
      have V12 := hide ((unhide V12).below bb)
      have C12 := hide ((unhide C12).below bb)
      have V14 := hide ((unhide V14).below bb)
      have C14 := hide ((unhide C14).below bb)
      have V17 := hide ((unhide V17).below bb)
      have C17 := hide ((unhide C17).below bb)
      have V19 := hide ((unhide V19).below bb)
      have C19 := hide ((unhide C19).below bb)
      clear bb
      have MARK : True := trivial
      go_wp2_with (with_reducible change wpList _ _ _ ({ dst := some 144, op := _, type := _, pos := _, after := _, guard := _ } :: _) _ _; clear MARK; generalize u21.alloc (.cells #[.int .i64 p.s, .int .i64 p.e, .bool true, .string hd0] 41) = v21 at *; generalize u21.heap.size = b21 at *; obtain ⟨_, x19a, x19b, x19c, x19d⟩ := unhide C19)
      have K := hide (unhide KO2 _ _ (unhide V19))
      refine (unhide K).mono ?_
      clear x19a x19b x19c x19d
      rintro e u23 ⟨rfl, bb⟩
      clear K
      have B := hide (bl_st bb (unhide B))
      have V8 := hide ((unhide V8).below bb)
      have C8 := hide ((unhide C8).below bb)
      have F9 := hide ((unhide F9).below bb)
      have V10 := hide ((unhide V10).below bb)
      have C10 := hide ((unhide C10).below bb)
      have V12 := hide ((unhide V12).below bb)
      have C12 := hide ((unhide C12).below bb)
      have V14 := hide ((unhide V14).below bb)
      have C14 := hide ((unhide C14).below bb)
      have V17 := hide ((unhide V17).below bb)
      have C17 := hide ((unhide C17).below bb)
      have V19 := hide ((unhide V19).below bb)
      have C19 := hide ((unhide C19).below bb)
      have F21 := hide ((unhide F21).below bb)
      clear bb
      have bb := bl_al (o := .cells #[.int .i64 p.s, .int .i64 p.e, .bool true, .string hd0] 41) (Below.refl u23.heap.size u23)
      have F23 := hide (fc_new u23 p.s p.e true hd0 41)
      have B := hide (bl_st bb (unhide B))
      have V8 := hide ((unhide V8).below bb)
      have C8 := hide ((unhide C8).below bb)
      have F9 := hide ((unhide F9).below bb)
      have V10 := hide ((unhide V10).below bb)
      have C10 := hide ((unhide C10).below bb)
      have V12 := hide ((unhide V12).below bb)
      have C12 := hide ((unhide C12).below bb)
      have V14 := hide ((unhide V14).below bb)
      have C14 := hide ((unhide C14).below bb)
      have V17 := hide ((unhide V17).below bb)
      have C17 := hide ((unhide C17).below bb)
      have V19 := hide ((unhide V19).below bb)
      have C19 := hide ((unhide C19).below bb)
      have F21 := hide ((unhide F21).below bb)
      clear bb
      have MARK : True := trivial
      go_wp2_with (with_reducible change wpList _ _ _ ({ dst := some 152, op := _, type := _, pos := _, after := _, guard := _ } :: _) _ _; clear MARK; generalize u23.alloc (.cells #[.int .i64 p.s, .int .i64 p.e, .bool true, .string hd0] 41) = v23 at *; generalize u23.heap.size = b23 at *; obtain ⟨_, x17a, x17b, x17c, x17d⟩ := unhide C17; obtain ⟨_, x19a, x19b, x19c, x19d⟩ := unhide C19)
      have K := hide (same15 _ _ _ _ (unhide V17) (unhide V19) (unhide HXO))
      refine (unhide K).mono ?_
      clear x17a x17b x17c x17d x19a x19b x19c x19d
      rintro e u25 ⟨rfl, bb⟩
      clear K
      have B := hide (bl_st bb (unhide B))
      have V8 := hide ((unhide V8).below bb)
      have C8 := hide ((unhide C8).below bb)
      have F9 := hide ((unhide F9).below bb)
      have V10 := hide ((unhide V10).below bb)
      have C10 := hide ((unhide C10).below bb)
      have V12 := hide ((unhide V12).below bb)
      have C12 := hide ((unhide C12).below bb)
      have V14 := hide ((unhide V14).below bb)
      have C14 := hide ((unhide C14).below bb)
      have V17 := hide ((unhide V17).below bb)
      have C17 := hide ((unhide C17).below bb)
      have V19 := hide ((unhide V19).below bb)
      have C19 := hide ((unhide C19).below bb)
      have F21 := hide ((unhide F21).below bb)
      have F23 := hide ((unhide F23).below bb)
      clear bb
      obtain ⟨_, x21a, x21b, x21c, x21d⟩ := unhide F21
      obtain ⟨_, x23a, x23b, x23c, x23d⟩ := unhide F23
      obtain ⟨_, x8a, x8b, x8c, x8d⟩ := unhide C8
      go_wp2_with fail
      go_ret
      exact ⟨rfl, unhide B⟩
      exfalso
      rename_i hh
      exact hh (by rw [show decide ((p.i.length : Int) < 100) = false from decide_eq_false (by omega), show ((p.i.length : Int) == (p.i.length : Int) + 1) = false from beq_eq_false_iff_ne.2 (by omega)])

end Go.Proofs.Ythonnlifgdnacaa
