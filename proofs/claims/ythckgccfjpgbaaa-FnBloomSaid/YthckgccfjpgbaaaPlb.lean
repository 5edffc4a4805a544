/- BloomPlace, both sides; the law. -/
import Derived.Test.YthckgccfjpgbaaaPla
namespace Go.Proofs.Ythckgccfjpgbaaa
open Go.RowKit
set_option maxHeartbeats 4000000
set_option maxRecDepth 20000
abbrev pV (r : Int × Int) : Value := .tuple #[.int .i64 r.1, .int .i64 r.2]
def plcR (x : Blm) (part tag : Int) : Int × Int :=
  if tagC x tag = 0 then (if 0 ≤ part ∧ part < (x.s.length : Int) then (part * x.w + plc x.p x.w (x.s.getD part.toNat noA) tag, 0) else (0, 4)) else (0, tagC x tag)
theorem plcR_code {x : Blm} {part tag : Int} (h : tagC x tag ≠ 0) : plcR x part tag = (0, tagC x tag) := by unfold plcR; rw [if_neg h]
theorem plcR_out {x : Blm} {part tag : Int} (h : tagC x tag = 0) (h2 : ¬ (0 ≤ part ∧ part < (x.s.length : Int))) : plcR x part tag = (0, 4) := by unfold plcR; rw [if_pos h, if_neg h2]
theorem plcR_ok {x : Blm} {i : Nat} {tag : Int} (h : tagC x tag = 0) (h2 : i < x.s.length) : plcR x (i : Int) tag = ((i : Int) * x.w + plc x.p x.w (x.s.getD i noA) tag, 0) := by
  unfold plcR; rw [if_pos h, if_pos ⟨by omega, by omega⟩, Int.toNat_natCast]
theorem tagC_cases (x : Blm) (tag : Int) : (tagC x tag = 1) ∨ (tagC x tag = 4) ∨ (tagC x tag = 0 ∧ Right x ∧ inP x.p tag = true) := by
  unfold tagC
  cases h : okX x
  · exact .inl rfl
  · cases h2 : inP x.p tag
    · exact .inr (.inl rfl)
    · exact .inr (.inr ⟨rfl, right_of h, rfl⟩)
theorem place23 (v : Value) (x : Blm) (part tag : Int) (w : World) (hv : blmV w v x) (hn : x.s.length ≤ 2097152) (hn' : x.b.length ≤ 2097152) :
    Calls Try.prog 23 #[v, .int .i64 part, .int .i64 tag] w fun e w' => e = .returned (pV (plcR x part tag)) ∧ Below w.heap.size w w' := by
  obtain ⟨a, b, rfl, ha, hb⟩ := hv
  have B1 : Below w.heap.size w (w.alloc (.cells #[.int .i64 x.p, .int .i64 x.w, a, b] 26)) := bl_al (Below.refl _ _)
  have C := bc_new w x.p x.w a b 26
  have hx : blmV (w.alloc (.cells #[.int .i64 x.p, .int .i64 x.w, a, b] 26)) (bloV x.p x.w a b) x := ⟨a, b, rfl, ha.below B1, hb.below B1⟩
  have K1 := hide (code49 (bloV x.p x.w a b) x tag _ hx hn hn')
  have HX := hide hx
  have HC := hide C
  have HB := hide B1
  have HA := hide (ha.below B1)
  have n0 : (0 : Int) ≤ (x.s.length : Int) := by omega
  have n1 : (x.s.length : Int) ≤ 2097152 := by omega
  rcases tagC_cases x tag with hc | hc | ⟨hc, hr, ht⟩
  · have HE := hide (plcR_code (part := part) (show tagC x tag ≠ 0 by omega))
    rw [hc] at K1 HE
    obtain ⟨A, ca, rfl⟩ := ha.slice
    obtain ⟨A2, cb, rfl⟩ := hb.slice
    clear B1 ha hb hn hn' hx hc
    obtain ⟨p, wd, ss, bs⟩ := x
    dsimp only at *
    obtain ⟨_, c0, c1, c2, c3⟩ := C
    go_enter Try.func23, Try.ntmps23
    go_wp2_with fail
    generalize w.alloc (.cells #[.int .i64 p, .int .i64 wd, .slice A ss.length ca, .slice A2 bs.length cb] 26) = w2 at *
    refine (unhide K1).mono ?_
    rintro e w1 ⟨rfl, b1⟩
    have B1 := hide (bl_st b1 (unhide HB))
    clear b1 c0 c1 c2 c3
    go_wp2
    go_ret2
    exact ⟨by rw [unhide HE]; rfl, unhide B1⟩
  · have HE := hide (plcR_code (part := part) (show tagC x tag ≠ 0 by omega))
    rw [hc] at K1 HE
    obtain ⟨A, ca, rfl⟩ := ha.slice
    obtain ⟨A2, cb, rfl⟩ := hb.slice
    clear B1 ha hb hn hn' hx hc
    obtain ⟨p, wd, ss, bs⟩ := x
    dsimp only at *
    obtain ⟨_, c0, c1, c2, c3⟩ := C
    go_enter Try.func23, Try.ntmps23
    go_wp2_with fail
    generalize w.alloc (.cells #[.int .i64 p, .int .i64 wd, .slice A ss.length ca, .slice A2 bs.length cb] 26) = w2 at *
    refine (unhide K1).mono ?_
    rintro e w1 ⟨rfl, b1⟩
    have B1 := hide (bl_st b1 (unhide HB))
    clear b1 c0 c1 c2 c3
    go_wp2
    go_ret2
    exact ⟨by rw [unhide HE]; rfl, unhide B1⟩
  by_cases hpart : 0 ≤ part ∧ part < (x.s.length : Int)
  · obtain ⟨i, rfl⟩ : ∃ i : Nat, part = (i : Int) := ⟨part.toNat, by omega⟩
    have hi : i < x.s.length := by omega
    have HE := hide (plcR_ok hc hi)
    rw [hc] at K1
    have hs := hr.salt i hi
    have K2 := hide (fun W (h : BC w.heap.size x.p x.w a b W) (sa sb : Int) (e : x.s.getD i noA = (sa, sb)) => bit52 w.heap.size x.p x.w a b sa sb tag W h hr.p2 hr.p9 hr.w1 (e ▸ hs) ht)
    obtain ⟨u0, u1⟩ := part_in (i := (i : Int)) (n := (x.s.length : Int)) (by omega) (by omega) (by have := hr.s4; omega) hr.w1 hr.w64
    have hb2 := plc_in (p := x.p) (x.s.getD i noA) tag hr.w1
    have w64 := hr.w64
    obtain ⟨A2, cb, rfl⟩ := hb.slice
    obtain ⟨A, ca, rfl⟩ := ha.slice
    clear B1 ha hb hn hn' hx hc hr ht hs
    obtain ⟨p, wd, ss, bs⟩ := x
    dsimp only at *
    obtain ⟨_, c0, c1, c2, c3⟩ := C
    have i0 : (0 : Int) ≤ (i : Int) := by omega
    have i1 : (i : Int) < (ss.length : Int) := by omega
    have HI := hide hi
    clear hpart hi
    generalize hg : ss.getD i noA = sj at *
    obtain ⟨sa, sb⟩ := sj
    have HG := hide hg
    have K3 := hide (fun W h => unhide K2 W h sa sb rfl)
    clear K2 hg
    generalize plc p wd (sa, sb) tag = z at *
    obtain ⟨z0, z1⟩ := hb2
    have z2 : z ≤ 63 := by omega
    obtain ⟨u, hu⟩ : ∃ u, (i : Int) * wd = u := ⟨_, rfl⟩
    rw [hu] at u0 u1 HE
    have wk1 : IntKind.i64.wrap u = u := by rw [IntKind.wrap_i64]; omega
    have wk2 : IntKind.i64.wrap (u + z) = u + z := by rw [IntKind.wrap_i64]; omega
    go_enter Try.func23, Try.ntmps23
    go_wp2_with fail
    generalize w.alloc (.cells #[.int .i64 p, .int .i64 wd, .slice A ss.length ca, .slice A2 bs.length cb] 26) = w2 at *
    refine (unhide K1).mono ?_
    rintro e w1 ⟨rfl, b1⟩
    have B1 := hide (bl_st b1 (unhide HB))
    have C1 := hide ((unhide HC).below b1)
    have S1 := (unhide HA).below b1
    obtain ⟨A', ca', eA, hcS⟩ := S1
    obtain ⟨b5, off, hA, hl1, hcell⟩ := hcS (by have := unhide HI; omega)
    simp only [Value.slice.injEq] at eA
    obtain ⟨e1, _, _⟩ := eA
    rw [hA] at e1
    subst e1
    have P1 := hcell i (unhide HI)
    rw [unhide HG] at P1
    have P1 := hide P1
    have L1 := hide hl1
    clear b1 c0 c1 c2 c3 hcS hcell hl1 HA
    obtain ⟨_, c0, c1, c2, c3⟩ := unhide C1
    go_wp2
    refine wp_region_held (S := fun W' => Below w1.heap.size w1 W') (by kernel_rfl) ?_
    have hS0 : Below w1.heap.size w1 { w1 with drawn := w1.drawn + 1 } := below_drewN (Below.refl _ _) 1
    clear c0 c1 c2 c3
    refine wpAnyH_take (i := 0) (oi := { dst := some 24, op := Op.move (Operand.tmp 1), type := 3, pos := "l10_bloom.go:110", after := #[], guard := none }) (v := ?_) rfl (by kernel_rfl) (by kernel_rfl) (by kernel_rfl) (fun _ _ _ h => h) (Or.inl ⟨by rfl, ?_⟩) hS0 ?_
    rotate_left
    · intro W hSw
      obtain ⟨_, c0, c1, c2, c3⟩ := (unhide C1).below hSw
      obtain ⟨d0, d1⟩ := (unhide P1).below (unhide L1) hSw
      dsimp only at d0 d1
      go_simp
      try with_reducible rfl
    simp only [Act.put, List.setIfInBounds_toArray, List.set_cons_zero, List.set_cons_succ]
    refine wpAnyH_take (i := 1) (oi := { dst := some 25, op := Op.fieldAddr 26 (Operand.tmp 3) 1, type := 0, pos := "l10_bloom.go:110", after := #[], guard := none }) (v := ?_) rfl (by kernel_rfl) (by kernel_rfl) (by kernel_rfl) (fun _ _ _ h => h) (Or.inl ⟨by rfl, ?_⟩) hS0 ?_
    rotate_left
    · intro W hSw
      obtain ⟨_, c0, c1, c2, c3⟩ := (unhide C1).below hSw
      obtain ⟨d0, d1⟩ := (unhide P1).below (unhide L1) hSw
      dsimp only at d0 d1
      go_simp
      try with_reducible rfl
    simp only [Act.put, List.setIfInBounds_toArray, List.set_cons_zero, List.set_cons_succ]
    refine wpAnyH_take (i := 2) (oi := { dst := some 26, op := Op.load 3 (Operand.tmp 25), type := 3, pos := "l10_bloom.go:110", after := #[{ on := 1, ground := Ground.data }], guard := none }) (v := ?_) rfl (by kernel_rfl) (by kernel_rfl) (by kernel_rfl) (fun _ _ _ h => h) (Or.inl ⟨by rfl, ?_⟩) hS0 ?_
    rotate_left
    · intro W hSw
      obtain ⟨_, c0, c1, c2, c3⟩ := (unhide C1).below hSw
      obtain ⟨d0, d1⟩ := (unhide P1).below (unhide L1) hSw
      dsimp only at d0 d1
      go_simp
      try with_reducible rfl
    simp only [Act.put, List.setIfInBounds_toArray, List.set_cons_zero, List.set_cons_succ]
    refine wpAnyH_take (i := 3) (oi := { dst := some 27, op := Op.binOp BinOp.mul 3 (Operand.tmp 24) (Operand.tmp 26) 3, type := 3, pos := "l10_bloom.go:110", after := #[{ on := 0, ground := Ground.data }, { on := 2, ground := Ground.data }], guard := none }) (v := ?_) rfl (by kernel_rfl) (by kernel_rfl) (by kernel_rfl) (fun _ _ _ h => h) (Or.inl ⟨by rfl, ?_⟩) hS0 ?_
    rotate_left
    · intro W hSw
      obtain ⟨_, c0, c1, c2, c3⟩ := (unhide C1).below hSw
      obtain ⟨d0, d1⟩ := (unhide P1).below (unhide L1) hSw
      dsimp only at d0 d1
      go_simp
      try with_reducible rfl
    simp only [Act.put, List.setIfInBounds_toArray, List.set_cons_zero, List.set_cons_succ]
    refine wpAnyH_take (i := 4) (oi := { dst := some 28, op := Op.fieldAddr 26 (Operand.tmp 3) 2, type := 0, pos := "l10_bloom.go:110", after := #[], guard := none }) (v := ?_) rfl (by kernel_rfl) (by kernel_rfl) (by kernel_rfl) (fun _ _ _ h => h) (Or.inl ⟨by rfl, ?_⟩) hS0 ?_
    rotate_left
    · intro W hSw
      obtain ⟨_, c0, c1, c2, c3⟩ := (unhide C1).below hSw
      obtain ⟨d0, d1⟩ := (unhide P1).below (unhide L1) hSw
      dsimp only at d0 d1
      go_simp
      try with_reducible rfl
    simp only [Act.put, List.setIfInBounds_toArray, List.set_cons_zero, List.set_cons_succ]
    refine wpAnyH_take (i := 5) (oi := { dst := some 29, op := Op.load 23 (Operand.tmp 28), type := 23, pos := "l10_bloom.go:110", after := #[{ on := 4, ground := Ground.data }], guard := none }) (v := ?_) rfl (by kernel_rfl) (by kernel_rfl) (by kernel_rfl) (fun _ _ _ h => h) (Or.inl ⟨by rfl, ?_⟩) hS0 ?_
    rotate_left
    · intro W hSw
      obtain ⟨_, c0, c1, c2, c3⟩ := (unhide C1).below hSw
      obtain ⟨d0, d1⟩ := (unhide P1).below (unhide L1) hSw
      dsimp only at d0 d1
      go_simp
      try with_reducible rfl
    simp only [Act.put, List.setIfInBounds_toArray, List.set_cons_zero, List.set_cons_succ]
    refine wpAnyH_take (i := 6) (oi := { dst := some 30, op := Op.move (Operand.tmp 1), type := 3, pos := "l10_bloom.go:110", after := #[], guard := none }) (v := ?_) rfl (by kernel_rfl) (by kernel_rfl) (by kernel_rfl) (fun _ _ _ h => h) (Or.inl ⟨by rfl, ?_⟩) hS0 ?_
    rotate_left
    · intro W hSw
      obtain ⟨_, c0, c1, c2, c3⟩ := (unhide C1).below hSw
      obtain ⟨d0, d1⟩ := (unhide P1).below (unhide L1) hSw
      dsimp only at d0 d1
      go_simp
      try with_reducible rfl
    simp only [Act.put, List.setIfInBounds_toArray, List.set_cons_zero, List.set_cons_succ]
    refine wpAnyH_take (i := 7) (oi := { dst := some 31, op := Op.indexAddr 23 (Operand.tmp 29) (Operand.tmp 30), type := 0, pos := "l10_bloom.go:110", after := #[{ on := 5, ground := Ground.data }, { on := 6, ground := Ground.data }], guard := none }) (v := ?_) rfl (by kernel_rfl) (by kernel_rfl) (by kernel_rfl) (fun _ _ _ h => h) (Or.inl ⟨by rfl, ?_⟩) hS0 ?_
    rotate_left
    · intro W hSw
      obtain ⟨_, c0, c1, c2, c3⟩ := (unhide C1).below hSw
      obtain ⟨d0, d1⟩ := (unhide P1).below (unhide L1) hSw
      dsimp only at d0 d1
      go_simp
      try with_reducible rfl
    simp only [Act.put, List.setIfInBounds_toArray, List.set_cons_zero, List.set_cons_succ]
    refine wpAnyH_take (i := 8) (oi := { dst := some 32, op := Op.load 67 (Operand.tmp 31), type := 67, pos := "l10_bloom.go:110", after := #[{ on := 7, ground := Ground.data }], guard := none }) (v := ?_) rfl (by kernel_rfl) (by kernel_rfl) (by kernel_rfl) (fun _ _ _ h => h) (Or.inl ⟨by rfl, ?_⟩) hS0 ?_
    rotate_left
    · intro W hSw
      obtain ⟨_, c0, c1, c2, c3⟩ := (unhide C1).below hSw
      obtain ⟨d0, d1⟩ := (unhide P1).below (unhide L1) hSw
      dsimp only at d0 d1
      go_simp
      try with_reducible rfl
    simp only [Act.put, List.setIfInBounds_toArray, List.set_cons_zero, List.set_cons_succ]
    refine wpAnyH_take (i := 9) (oi := { dst := some 33, op := Op.move (Operand.tmp 2), type := 3, pos := "l10_bloom.go:110", after := #[], guard := none }) (v := ?_) rfl (by kernel_rfl) (by kernel_rfl) (by kernel_rfl) (fun _ _ _ h => h) (Or.inl ⟨by rfl, ?_⟩) hS0 ?_
    rotate_left
    · intro W hSw
      obtain ⟨_, c0, c1, c2, c3⟩ := (unhide C1).below hSw
      obtain ⟨d0, d1⟩ := (unhide P1).below (unhide L1) hSw
      dsimp only at d0 d1
      go_simp
      try with_reducible rfl
    simp only [Act.put, List.setIfInBounds_toArray, List.set_cons_zero, List.set_cons_succ]
    refine wpAnyH_one (i := 10) (by kernel_rfl) ?_
    refine wpOp_step (o := { dst := some 34, op := Op.call { callee := Callee.value (Operand.func 52), args := #[Operand.tmp 3, Operand.tmp 32, Operand.tmp 33], argTypes := #[26, 67, 3] }, type := 3, pos := "l10_bloom.go:110", after := #[{ on := 8, ground := Ground.data }, { on := 9, ground := Ground.data }], guard := none }) rfl fun K' hK => step_enterW (by rfl) 52 #[ptr w.heap.size, saltV (sa, sb), .int .i64 tag] (by go_simp) ((unhide K3 _ ((unhide C1).below hS0)).mono ?_)
    rintro e w3 ⟨rfl, b3⟩
    have s3 := bl_st b3 hS0
    clear b3
    refine ⟨_, rfl, hK _ _ ⟨s3, ?_⟩⟩
    simp only [Act.put, List.setIfInBounds_toArray, List.set_cons_zero, List.set_cons_succ]
    refine wpAnyH_take (i := 11) (oi := { dst := some 35, op := Op.binOp BinOp.add 3 (Operand.tmp 27) (Operand.tmp 34) 3, type := 3, pos := "l10_bloom.go:110", after := #[{ on := 3, ground := Ground.data }, { on := 10, ground := Ground.data }], guard := none }) (v := ?_) rfl (by kernel_rfl) (by kernel_rfl) (by kernel_rfl) (fun _ _ _ h => h) (Or.inl ⟨by rfl, ?_⟩) s3 ?_
    rotate_left
    · intro W hSw
      obtain ⟨_, c0, c1, c2, c3⟩ := (unhide C1).below hSw
      obtain ⟨d0, d1⟩ := (unhide P1).below (unhide L1) hSw
      dsimp only at d0 d1
      go_simp
      try with_reducible rfl
    simp only [Act.put, List.setIfInBounds_toArray, List.set_cons_zero, List.set_cons_succ]
    refine wpAnyH_take (i := 12) (oi := { dst := some 6, op := Op.assign (Operand.tmp 35), type := 3, pos := "l10_bloom.go:110", after := #[{ on := 11, ground := Ground.data }, { on := 10, ground := Ground.chain }, { on := 0, ground := Ground.phase }, { on := 1, ground := Ground.phase }, { on := 2, ground := Ground.phase }, { on := 3, ground := Ground.phase }, { on := 4, ground := Ground.phase }, { on := 5, ground := Ground.phase }, { on := 6, ground := Ground.phase }, { on := 7, ground := Ground.phase }, { on := 8, ground := Ground.phase }, { on := 9, ground := Ground.phase }, { on := 10, ground := Ground.phase }, { on := 11, ground := Ground.phase }], guard := none }) (v := ?_) rfl (by kernel_rfl) (by kernel_rfl) (by kernel_rfl) (fun _ _ _ h => h) (Or.inl ⟨by rfl, ?_⟩) s3 ?_
    rotate_left
    · intro W hSw
      obtain ⟨_, c0, c1, c2, c3⟩ := (unhide C1).below hSw
      obtain ⟨d0, d1⟩ := (unhide P1).below (unhide L1) hSw
      dsimp only at d0 d1
      go_simp
      try with_reducible rfl
    simp only [Act.put, List.setIfInBounds_toArray, List.set_cons_zero, List.set_cons_succ]
    refine wpAnyH_take (i := 13) (oi := { dst := some 7, op := Op.assign (Operand.const (Value.int IntKind.i64 0)), type := 3, pos := "l10_bloom.go:110", after := #[{ on := 12, ground := Ground.chain }, { on := 0, ground := Ground.phase }, { on := 1, ground := Ground.phase }, { on := 2, ground := Ground.phase }, { on := 3, ground := Ground.phase }, { on := 4, ground := Ground.phase }, { on := 5, ground := Ground.phase }, { on := 6, ground := Ground.phase }, { on := 7, ground := Ground.phase }, { on := 8, ground := Ground.phase }, { on := 9, ground := Ground.phase }, { on := 10, ground := Ground.phase }, { on := 11, ground := Ground.phase }, { on := 12, ground := Ground.phase }], guard := none }) (v := ?_) rfl (by kernel_rfl) (by kernel_rfl) (by kernel_rfl) (fun _ _ _ h => h) (Or.inl ⟨by rfl, ?_⟩) s3 ?_
    rotate_left
    · intro W hSw
      obtain ⟨_, c0, c1, c2, c3⟩ := (unhide C1).below hSw
      obtain ⟨d0, d1⟩ := (unhide P1).below (unhide L1) hSw
      dsimp only at d0 d1
      go_simp
      try with_reducible rfl
    simp only [Act.put, List.setIfInBounds_toArray, List.set_cons_zero, List.set_cons_succ]
    refine wpAnyH_done (by kernel_rfl) ?_ _
    have B3 := hide (bl_st s3 (unhide B1))
    clear s3 hS0
    go_wp2
    go_ret2
    exact ⟨by rw [unhide HE]; rfl, unhide B3⟩
  · have HE := hide (plcR_out hc hpart)
    rw [hc] at K1
    obtain ⟨A2, cb, rfl⟩ := hb.slice
    obtain ⟨A, ca, rfl⟩ := ha.slice
    clear B1 ha hb hn hn' hx hc hr ht
    obtain ⟨p, wd, ss, bs⟩ := x
    dsimp only at *
    obtain ⟨_, c0, c1, c2, c3⟩ := C
    by_cases hneg : part < 0
    all_goals
      try have hge : (ss.length : Int) ≤ part := by omega
      try have hge0 : (0 : Int) ≤ part := by omega
      clear hpart
      go_enter Try.func23, Try.ntmps23
      go_wp2_with fail
      generalize w.alloc (.cells #[.int .i64 p, .int .i64 wd, .slice A ss.length ca, .slice A2 bs.length cb] 26) = w2 at *
      refine (unhide K1).mono ?_
      rintro e w1 ⟨rfl, b1⟩
      have B1 := hide (bl_st b1 (unhide HB))
      clear c0 c1 c2 c3
      obtain ⟨_, c0, c1, c2, c3⟩ := (unhide HC).below b1
      clear b1
      go_wp2
      go_ret2
      exact ⟨by rw [unhide HE]; rfl, unhide B1⟩
theorem place39 (v : Value) (x : Blm) (part tag : Int) (w : World) (hv : blmV w v x) (hn : x.s.length ≤ 2097152) (hn' : x.b.length ≤ 2097152) :
    Calls Try.prog 39 #[v, .int .i64 part, .int .i64 tag] w fun e w' => e = .returned (pV (plcR x part tag)) ∧ Below w.heap.size w w' := by
  obtain ⟨a, b, rfl, ha, hb⟩ := hv
  have B1 : Below w.heap.size w (w.alloc (.cells #[.int .i64 x.p, .int .i64 x.w, a, b] 26)) := bl_al (Below.refl _ _)
  have C := bc_new w x.p x.w a b 26
  have hx : blmV (w.alloc (.cells #[.int .i64 x.p, .int .i64 x.w, a, b] 26)) (bloV x.p x.w a b) x := ⟨a, b, rfl, ha.below B1, hb.below B1⟩
  have K1 := hide (code53 (bloV x.p x.w a b) x tag _ hx hn hn')
  have HX := hide hx
  have HC := hide C
  have HB := hide B1
  have HA := hide (ha.below B1)
  have n0 : (0 : Int) ≤ (x.s.length : Int) := by omega
  have n1 : (x.s.length : Int) ≤ 2097152 := by omega
  rcases tagC_cases x tag with hc | hc | ⟨hc, hr, ht⟩
  · have HE := hide (plcR_code (part := part) (show tagC x tag ≠ 0 by omega))
    rw [hc] at K1 HE
    obtain ⟨A, ca, rfl⟩ := ha.slice
    obtain ⟨A2, cb, rfl⟩ := hb.slice
    clear B1 ha hb hn hn' hx hc
    obtain ⟨p, wd, ss, bs⟩ := x
    dsimp only at *
    obtain ⟨_, c0, c1, c2, c3⟩ := C
    go_enter Try.func39, Try.ntmps39
    go_wp2_with fail
    generalize w.alloc (.cells #[.int .i64 p, .int .i64 wd, .slice A ss.length ca, .slice A2 bs.length cb] 26) = w2 at *
    refine (unhide K1).mono ?_
    rintro e w1 ⟨rfl, b1⟩
    have B1 := hide (bl_st b1 (unhide HB))
    clear b1 c0 c1 c2 c3
    go_wp2
    go_ret2
    exact ⟨by rw [unhide HE]; rfl, unhide B1⟩
  · have HE := hide (plcR_code (part := part) (show tagC x tag ≠ 0 by omega))
    rw [hc] at K1 HE
    obtain ⟨A, ca, rfl⟩ := ha.slice
    obtain ⟨A2, cb, rfl⟩ := hb.slice
    clear B1 ha hb hn hn' hx hc
    obtain ⟨p, wd, ss, bs⟩ := x
    dsimp only at *
    obtain ⟨_, c0, c1, c2, c3⟩ := C
    go_enter Try.func39, Try.ntmps39
    go_wp2_with fail
    generalize w.alloc (.cells #[.int .i64 p, .int .i64 wd, .slice A ss.length ca, .slice A2 bs.length cb] 26) = w2 at *
    refine (unhide K1).mono ?_
    rintro e w1 ⟨rfl, b1⟩
    have B1 := hide (bl_st b1 (unhide HB))
    clear b1 c0 c1 c2 c3
    go_wp2
    go_ret2
    exact ⟨by rw [unhide HE]; rfl, unhide B1⟩
  by_cases hpart : 0 ≤ part ∧ part < (x.s.length : Int)
  · obtain ⟨i, rfl⟩ : ∃ i : Nat, part = (i : Int) := ⟨part.toNat, by omega⟩
    have hi : i < x.s.length := by omega
    have HE := hide (plcR_ok hc hi)
    rw [hc] at K1
    have K2 := hide (fun W (h : blmV W (bloV x.p x.w a b) x) => place55 (bloV x.p x.w a b) x i tag W h hr hi ht)
    have K4 := hide (fun W => in19 (i : Int) 0 ((x.s.length : Int) - 1) W)
    rw [decide_eq_true (show (0 : Int) ≤ (i : Int) by omega), decide_eq_true (show (i : Int) ≤ (x.s.length : Int) - 1 by omega)] at K4
    obtain ⟨A2, cb, rfl⟩ := hb.slice
    obtain ⟨A, ca, rfl⟩ := ha.slice
    have n3 := hr.s1
    have n2 : (1 : Int) ≤ (x.s.length : Int) := by omega
    clear B1 ha hb hn hn' hx hc hr ht hi hpart n3
    obtain ⟨p, wd, ss, bs⟩ := x
    dsimp only at *
    obtain ⟨_, c0, c1, c2, c3⟩ := C
    generalize (i : Int) * wd + plc p wd (ss.getD i noA) tag = z at *
    go_enter Try.func39, Try.ntmps39
    go_wp2_with fail
    generalize w.alloc (.cells #[.int .i64 p, .int .i64 wd, .slice A ss.length ca, .slice A2 bs.length cb] 26) = w2 at *
    refine (unhide K1).mono ?_
    rintro e w1 ⟨rfl, b1⟩
    have B1 := hide (bl_st b1 (unhide HB))
    have X1 := hide ((unhide HX).below b1)
    clear c0 c1 c2 c3
    obtain ⟨_, c0, c1, c2, c3⟩ := (unhide HC).below b1
    clear b1
    go_wp2_with fail
    refine (unhide K4 w1).mono ?_
    rintro e w3 ⟨rfl, hw⟩
    have hw' := hw.symm
    subst hw'
    clear hw
    go_wp2_with fail
    refine (unhide K2 w1 (unhide X1)).mono ?_
    rintro e w3 ⟨rfl, b3⟩
    have B3 := hide (bl_st b3 (unhide B1))
    clear b3 c0 c1 c2 c3
    go_wp2
    go_ret2
    exact ⟨by rw [unhide HE]; rfl, unhide B3⟩
  · have HE := hide (plcR_out hc hpart)
    rw [hc] at K1
    have K4 := hide (fun W => in19 part 0 ((x.s.length : Int) - 1) W)
    rw [show (decide ((0 : Int) ≤ part) && decide (part ≤ (x.s.length : Int) - 1)) = false by rw [← Bool.not_eq_true]; simp; omega] at K4
    obtain ⟨A2, cb, rfl⟩ := hb.slice
    obtain ⟨A, ca, rfl⟩ := ha.slice
    have n3 := hr.s1
    have n2 : (1 : Int) ≤ (x.s.length : Int) := by omega
    clear B1 ha hb hn hn' hx hc hr ht hpart n3
    obtain ⟨p, wd, ss, bs⟩ := x
    dsimp only at *
    obtain ⟨_, c0, c1, c2, c3⟩ := C
    go_enter Try.func39, Try.ntmps39
    go_wp2_with fail
    generalize w.alloc (.cells #[.int .i64 p, .int .i64 wd, .slice A ss.length ca, .slice A2 bs.length cb] 26) = w2 at *
    refine (unhide K1).mono ?_
    rintro e w1 ⟨rfl, b1⟩
    have B1 := hide (bl_st b1 (unhide HB))
    clear c0 c1 c2 c3
    obtain ⟨_, c0, c1, c2, c3⟩ := (unhide HC).below b1
    clear b1
    go_wp2_with fail
    refine (unhide K4 w1).mono ?_
    rintro e w3 ⟨rfl, rfl⟩
    go_wp2
    go_ret2
    exact ⟨by rw [unhide HE]; rfl, unhide B1⟩
theorem law_place (w : World) (v : Value) (x : Blm) (hv : blmV w v x) (hl : x.s.length ≤ maxLen) (hl' : x.b.length ≤ maxLen) (part tag : Int) :
    Calls Try.prog 8 #[v, .int .i64 part, .int .i64 tag] w fun e w' => e = .returned (.bool true) ∧ Below w.heap.size w w' := by
  obtain ⟨a, b, rfl, ha, hb⟩ := hv
  have B0 : Below w.heap.size w (w.alloc (.cells #[.int .i64 x.p, .int .i64 x.w, a, b] 52)) := bl_al (Below.refl _ _)
  have hv : blmV w (bloV x.p x.w a b) x := ⟨a, b, rfl, ha, hb⟩
  have h6 := hide (sz36 (bloV x.p x.w a b) x 1048576 _ (hv.below B0) hl hl' (by omega) (by omega))
  have C := bc_new w x.p x.w a b 52
  have HC := hide C
  have HV := hide hv
  have HB := hide B0
  have HTO : Hid (x.s.length + x.b.length ≤ 1048576 → ∀ W, blmV W (bloV x.p x.w a b) x → Calls Try.prog 38 #[bloV x.p x.w a b] W fun e w' => ∃ r, e = .returned r ∧ ownX W.heap.size w'.heap.size w' r x ∧ Below W.heap.size W w') := hide fun hn W hu => to38 _ x W hu (by omega) (by omega)
  have HSP : Hid (x.s.length + x.b.length ≤ 1048576 → ∀ u W, blmV W u x → Calls Try.prog 39 #[u, .int .i64 part, .int .i64 tag] W fun e w' => e = .returned (pV (plcR x part tag)) ∧ Below W.heap.size W w') := hide fun hn u W hu => place39 u x part tag W hu (by omega) (by omega)
  have HIM : Hid (x.s.length + x.b.length ≤ 1048576 → ∀ u W, blmV W u x → Calls Try.prog 23 #[u, .int .i64 part, .int .i64 tag] W fun e w' => e = .returned (pV (plcR x part tag)) ∧ Below W.heap.size W w') := hide fun hn u W hu => place23 u x part tag W hu (by omega) (by omega)
  have HEQ : Hid (x.s.length + x.b.length ≤ 1048576 → ∀ u u' W, blmV W u x → blmV W u' x → Calls Try.prog 31 #[u, u'] W fun e w' => e = .returned (.bool true) ∧ Below W.heap.size W w') := hide fun hn u u' W hu hu' => eq31 u u' x W hu hu' (by omega) (by omega)
  generalize plcR x part tag = r at *
  obtain ⟨y0, y1⟩ := r
  clear hl hl' hv ha hb B0
  obtain ⟨p, wd, ss, bs⟩ := x
  dsimp only at *
  obtain ⟨_, c0, c1, c2, c3⟩ := C
  go_enter Try.func8, Try.ntmps8
  go_wp2_with fail
  generalize w.alloc (.cells #[.int .i64 p, .int .i64 wd, a, b] 52) = w0 at *
  refine (unhide h6).mono ?_
  rintro e w1 ⟨z, rfl, hz, b1⟩
  have B1 := hide (bl_st b1 (unhide HB))
  have C1 := hide ((unhide HC).below b1)
  have HZ := hide hz
  clear hz b1 h6 c0 c1 c2 c3 HB HC
  by_cases hneg : z < 0
  · go_wp2
    go_ret
    exact ⟨rfl, unhide B1⟩
  have HN := hide (Or.resolve_left (unhide HZ) hneg).2.2
  have hge : 0 ≤ z := by omega
  clear hneg
  obtain ⟨_, c0, c1, c2, c3⟩ := unhide C1
  go_wp2_with fail
  refine (unhide HTO (unhide HN) w1 ((unhide HV).below (unhide B1))).mono ?_
  rintro e w2 ⟨u1, rfl, o2, b2⟩
  have B2 := hide (bl_st b2 (unhide B1))
  have U2 := hide o2.blm
  have C2 := hide ((unhide C1).below b2)
  clear b2 B1 C1 o2 c0 c1 c2 c3
  go_wp2_with fail
  refine (unhide HSP (unhide HN) _ w2 (unhide U2)).mono ?_
  rintro e w3 ⟨rfl, b3⟩
  have B3 := hide (bl_st b3 (unhide B2))
  have C3 := hide ((unhide C2).below b3)
  clear b3 B2 U2 C2
  obtain ⟨_, c0, c1, c2, c3⟩ := unhide C3
  go_wp2_with fail
  refine (unhide HTO (unhide HN) w3 ((unhide HV).below (unhide B3))).mono ?_
  rintro e w4 ⟨u, rfl, o4, b4⟩
  have U4 := o4.blm
  obtain ⟨a2, b2, rfl, oa2, ob2, _⟩ := o4
  obtain ⟨A2, ca2, rfl⟩ := oa2.salts.slice
  obtain ⟨B2, cb2, rfl⟩ := ob2.bools.slice
  clear oa2 ob2
  have BA : Below w4.heap.size w4 (w4.alloc (.cells #[.int .i64 p, .int .i64 wd, .slice A2 ss.length ca2, .slice B2 bs.length cb2] 26)) := bl_al (Below.refl _ _)
  have B4 := hide (bl_st BA (bl_st b4 (unhide B3)))
  have U4 := hide (U4.below BA)
  have C4 := hide (((unhide C3).below b4).below BA)
  have D := bc_new w4 p wd (.slice A2 ss.length ca2) (.slice B2 bs.length cb2) 26
  have D4 := hide D
  clear b4 B3 C3 BA c0 c1 c2 c3
  obtain ⟨_, d0, d1, d2, d3⟩ := D
  go_wp2_with fail
  generalize hw4 : w4.alloc (.cells #[.int .i64 p, .int .i64 wd, .slice A2 ss.length ca2, .slice B2 bs.length cb2] 26) = w4' at *
  refine (unhide HIM (unhide HN) _ w4' (unhide U4)).mono ?_
  rintro e w5 ⟨rfl, b5⟩
  have B5 := hide (bl_st b5 (unhide B4))
  have C5 := hide ((unhide C4).below b5)
  have D5 := hide ((unhide D4).below b5)
  have U5 := hide ((unhide U4).below b5)
  have V5 := hide ((unhide HV).below (unhide B5))
  clear b5 B4 C4 D4 U4 d0 d1 d2 d3 hw4 HV
  go_wp2
  refine wp_region_held (S := fun W' => Below w5.heap.size w5 W') (by kernel_rfl) ?_
  have hS0 : Below w5.heap.size w5 { w5 with drawn := w5.drawn + 1 } := below_drewN (Below.refl _ _) 1
  refine wpAnyH_take (i := 0) (oi := { dst := some 43, op := Op.load 26 (Operand.tmp 10), type := 26, pos := "exact.go:3177", after := #[], guard := none }) (v := ?_) rfl (by kernel_rfl) (by kernel_rfl) (by kernel_rfl) (fun _ _ _ h => h) (Or.inl ⟨by rfl, ?_⟩) hS0 ?_
  rotate_left
  · intro W hSw
    obtain ⟨_, c0, c1, c2, c3⟩ := (unhide C5).below hSw
    obtain ⟨_, d0, d1, d2, d3⟩ := (unhide D5).below hSw
    go_simp
    try with_reducible rfl
  simp only [Act.put, List.setIfInBounds_toArray, List.set_cons_zero, List.set_cons_succ]
  refine wpAnyH_take (i := 1) (oi := { dst := some 44, op := Op.load 52 (Operand.tmp 3), type := 52, pos := "exact.go:3177", after := #[], guard := none }) (v := ?_) rfl (by kernel_rfl) (by kernel_rfl) (by kernel_rfl) (fun _ _ _ h => h) (Or.inl ⟨by rfl, ?_⟩) hS0 ?_
  rotate_left
  · intro W hSw
    obtain ⟨_, c0, c1, c2, c3⟩ := (unhide C5).below hSw
    obtain ⟨_, d0, d1, d2, d3⟩ := (unhide D5).below hSw
    go_simp
    try with_reducible rfl
  simp only [Act.put, List.setIfInBounds_toArray, List.set_cons_zero, List.set_cons_succ]
  refine wpAnyH_one (i := 2) (by kernel_rfl) ?_
  refine wpOp_step (o := { dst := some 45, op := Op.call { callee := Callee.value (Operand.func 38), args := #[Operand.tmp 44], argTypes := #[52] }, type := 26, pos := "exact.go:3177", after := #[{ on := 1, ground := Ground.data }], guard := none }) rfl fun K' hK => step_enterW (by rfl) 38 #[bloV p wd a b] (by go_simp) ((unhide HTO (unhide HN) _ ((unhide V5).below hS0)).mono ?_)
  rintro e w6 ⟨u6, rfl, o6, b6⟩
  have s6 := bl_st b6 hS0
  have U6 := hide ((unhide U5).below s6)
  have V6 := hide o6.blm
  clear b6 o6
  refine ⟨_, rfl, hK _ _ ⟨s6, ?_⟩⟩
  simp only [Act.put, List.setIfInBounds_toArray, List.set_cons_zero, List.set_cons_succ]
  refine wpAnyH_one (i := 3) (by kernel_rfl) ?_
  refine wpOp_step (o := { dst := some 46, op := Op.call { callee := Callee.value (Operand.func 31), args := #[Operand.tmp 43, Operand.tmp 45], argTypes := #[26, 26] }, type := 4, pos := "exact.go:3177", after := #[{ on := 0, ground := Ground.data }, { on := 2, ground := Ground.data }, { on := 2, ground := Ground.chain }], guard := none }) rfl fun K' hK => step_enterW (by rfl) 31 #[bloV p wd (.slice A2 ss.length ca2) (.slice B2 bs.length cb2), u6] (by go_simp) ((unhide HEQ (unhide HN) _ _ _ (unhide U6) (unhide V6)).mono ?_)
  rintro e w7 ⟨rfl, b7⟩
  have s7 := bl_st b7 s6
  clear b7
  refine ⟨_, rfl, hK _ _ ⟨s7, ?_⟩⟩
  simp only [Act.put, List.setIfInBounds_toArray, List.set_cons_zero, List.set_cons_succ]
  refine wpAnyH_take (i := 4) (oi := { dst := some 47, op := Op.unOp UnOp.not 4 (Operand.tmp 46), type := 4, pos := "exact.go:3177", after := #[{ on := 3, ground := Ground.data }], guard := none }) (v := ?_) rfl (by kernel_rfl) (by kernel_rfl) (by kernel_rfl) (fun _ _ _ h => h) (Or.inl ⟨by rfl, ?_⟩) s7 ?_
  rotate_left
  · intro W hSw
    go_simp
    try with_reducible rfl
  simp only [Act.put, List.setIfInBounds_toArray, List.set_cons_zero, List.set_cons_succ]
  refine wpAnyH_done (by kernel_rfl) ?_ _
  have B7 := hide (bl_st s7 (unhide B5))
  clear s6 s7 hS0
  go_wp2
  go_ret
  exact ⟨rfl, unhide B7⟩
end Go.Proofs.Ythckgccfjpgbaaa
