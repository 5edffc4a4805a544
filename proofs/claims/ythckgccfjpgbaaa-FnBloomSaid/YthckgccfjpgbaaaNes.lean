/- NewBloom: the specification's side. -/
import Derived.Test.YthckgccfjpgbaaaNew
namespace Go.Proofs.Ythckgccfjpgbaaa
open Go.RowKit
set_option maxHeartbeats 4000000
set_option maxRecDepth 20000
theorem ownB.grown {lo hi : Nat} {w w' : World} {v : Value} {xs : List Bool} {row : Option Nat} (h : ownB lo hi w v xs) (hg : w.grownBy w' row) (hd : ∀ g, v.ownBlock = some g → some g ≠ row) : ownB lo hi w' v xs := by
  obtain h | ⟨g, cap, rest, rfl, h1, hh, hc, hcp⟩ := h
  · exact .inl h
  · exact .inr ⟨g, cap, rest, rfl, h1, hh, (hg.block g (Array.getElem?_eq_some_iff.1 hc).1 (hd g rfl)).trans hc, hcp⟩
theorem apartT {lo hi lo' hi' : Nat} {w : World} {a b : Value} {xs : List Slt} {ys : List Bool} (ha : ownA lo hi w a xs) (hb : ownB lo' hi' w b ys) : ∀ g, a.ownBlock = some g → b.ownBlock ≠ some g := by
  intro g h1 h2
  obtain ⟨rfl, _⟩ | ⟨g1, c1, r1, rfl, _, _, e1, _⟩ := ha
  · cases h1
  · obtain ⟨rfl, _⟩ | ⟨g2, c2, r2, rfl, _, _, e2, _⟩ := hb
    · cases h2
    · cases h1
      cases h2
      rw [e1] at e2
      simp [sltO, bolO] at e2
theorem new29 (p wd : Int) (v : Value) (ss : List Slt) (w : World) (hv : saltsV w v ss) (hn : ss.length ≤ 2097152) :
    Calls Try.prog 29 #[.int .i64 p, .int .i64 wd, v] w fun e w' => outX w (newR p wd ss).1 (newR p wd ss).2 e w' := by
  obtain ⟨A, ca, rfl⟩ := hv.slice
  have B0 : Below w.heap.size w (w.alloc (.cells #[.int .i64 0, .int .i64 0, .slice none 0 0, .slice none 0 0] 26)) := bl_al (Below.refl _ _)
  have N0 := hide (heap_alloc_new w (.cells #[.int .i64 0, .int .i64 0, .slice none 0 0, .slice none 0 0] 26))
  have HB := hide B0
  have HV := hide (hv.below B0)
  have e0 : Hid ((w.alloc (.cells #[.int .i64 0, .int .i64 0, .slice none 0 0, .slice none 0 0] 26)).heap.size = w.heap.size + 1) := hide (by simp)
  have n0 : (0 : Int) ≤ (ss.length : Int) := by omega
  have n1 : (ss.length : Int) ≤ 2097152 := by omega
  have K2 := hide (fun W => shape62 p wd W)
  have K3 := hide (fun W (h : saltsV W (.slice A ss.length ca) ss) h2 h9 => salts66 p (.slice A ss.length ca) ss W h hn h2 h9)
  clear hv
  by_cases h4 : 4096 < ss.length
  · have HE := hide (newR_long (p := p) (wd := wd) h4)
    have q : (4096 : Int) < (ss.length : Int) := by omega
    clear B0 h4 K2 K3
    go_enter Try.func29, Try.ntmps29
    go_wp2
    rw [unhide HE]
    exact bodyPost_ret (results_tmp_row rfl _ _ w.heap.size 26 _ (0, 0) _ _ rfl rfl (unhide N0) Try.underlying26 rfl (by kernel_rfl)) rfl ⟨_, rfl, own_noX _ _ _, unhide HB⟩
  have q : (ss.length : Int) ≤ 4096 := by omega
  have HE1 := hide (fun h => newR_bad (p := p) (wd := wd) (show ss.length ≤ 4096 by omega) h)
  have HE2 := hide (fun h1 h2 => newR_ok (p := p) (wd := wd) (show ss.length ≤ 4096 by omega) h1 h2)
  have HIN := hide (fun h => shapeB_in (p := p) (w := wd) h)
  have HLE := hide (fun h => saltsB_len (p := p) (ss := ss) h)
  have HN := hide hn
  clear B0 h4 hn
  generalize h1 : shapeB p wd = u1 at *
  generalize h2 : saltsB p ss = u2 at *
  generalize newR p wd ss = rr at *
  clear h1 h2
  cases u1
  · have HE := hide (unhide HE1 rfl)
    go_enter Try.func29, Try.ntmps29
    go_wp2_with fail
    refine (unhide K2 _).mono ?_
    rintro e w1 ⟨rfl, rfl⟩
    go_wp2
    rw [unhide HE]
    exact bodyPost_ret (results_tmp_row rfl _ _ w.heap.size 26 _ (0, 0) _ _ rfl rfl (unhide N0) Try.underlying26 rfl (by kernel_rfl)) rfl ⟨_, rfl, own_noX _ _ _, unhide HB⟩
  obtain ⟨p2, p9, w1', wp, w64⟩ := unhide HIN rfl
  have K4 := hide (fun W h => unhide K3 W h p2 p9)
  clear K3
  cases u2
  · have HE := hide (unhide HE1 rfl)
    go_enter Try.func29, Try.ntmps29
    go_wp2_with fail
    refine (unhide K2 _).mono ?_
    rintro e w1 ⟨rfl, hw⟩
    have hw' := hw.symm
    subst hw'
    clear hw
    go_wp2_with fail
    refine (unhide K4 _ (unhide HV)).mono ?_
    rintro e w1 ⟨rfl, rfl⟩
    go_wp2
    rw [unhide HE]
    exact bodyPost_ret (results_tmp_row rfl _ _ w.heap.size 26 _ (0, 0) _ _ rfl rfl (unhide N0) Try.underlying26 rfl (by kernel_rfl)) rfl ⟨_, rfl, own_noX _ _ _, unhide HB⟩
  obtain ⟨s1, s4⟩ := unhide HLE rfl
  have HE := hide (unhide HE2 rfl rfl)
  obtain ⟨M, hM⟩ : ∃ M : Nat, wd = (M : Int) := ⟨wd.toNat, by omega⟩
  subst hM
  rw [Int.toNat_natCast] at HE
  obtain ⟨m, hm⟩ : ∃ m : Nat, ss.length * M = m := ⟨_, rfl⟩
  rw [hm] at HE
  have mI : (M : Int) * (ss.length : Int) = (m : Int) := by rw [← hm]; simp [Int.mul_comm]
  have m256 : m ≤ 256 := by rw [← hm]; have : ss.length * M ≤ 4 * 64 := Nat.mul_le_mul s4 (by omega); omega
  have mk := make_bools m (by omega)
  have wk : IntKind.i64.wrap (m : Int) = (m : Int) := by rw [IntKind.wrap_i64]; omega
  have HN4 := hide s4
  clear HIN HLE HE1 HE2 p2 p9 w1' wp w64 s1 s4 hm m256
  go_enter Try.func29, Try.ntmps29
  go_wp2_with fail
  refine (unhide K2 _).mono ?_
  rintro e w1 ⟨rfl, hw⟩
  have hw' := hw.symm
  subst hw'
  clear hw
  go_wp2_with fail
  refine (unhide K4 _ (unhide HV)).mono ?_
  rintro e w1 ⟨rfl, hw⟩
  have hw' := hw.symm
  subst hw'
  clear hw
  go_wp2
  generalize w.alloc (.cells #[.int .i64 0, .int .i64 0, .slice none 0 0, .slice none 0 0] 26) = w1 at *
  clear K2 K4
  refine wp_region_held (S := fun W' => Below w1.heap.size w1 W' ∨ True) (by kernel_rfl) ?_
  have hS0 : Below w1.heap.size w1 { w1 with drawn := w1.drawn + 1 } ∨ True := .inr trivial
  refine wpAnyH_take (i := 0) (oi := { dst := some 23, op := Op.move (Operand.tmp 0), type := 3, pos := "l10_bloom.go:42", after := #[], guard := none }) (v := ?_) rfl (by kernel_rfl) (by kernel_rfl) (by kernel_rfl) (fun _ _ _ h => h) (Or.inl ⟨by rfl, ?_⟩) hS0 ?_
  rotate_left
  · intro W hSw
    go_simp
    try with_reducible rfl
  simp only [Act.put, List.setIfInBounds_toArray, List.set_cons_zero, List.set_cons_succ]
  refine wpAnyH_take (i := 1) (oi := { dst := some 24, op := Op.move (Operand.tmp 1), type := 3, pos := "l10_bloom.go:42", after := #[], guard := none }) (v := ?_) rfl (by kernel_rfl) (by kernel_rfl) (by kernel_rfl) (fun _ _ _ h => h) (Or.inl ⟨by rfl, ?_⟩) hS0 ?_
  rotate_left
  · intro W hSw
    go_simp
    try with_reducible rfl
  simp only [Act.put, List.setIfInBounds_toArray, List.set_cons_zero, List.set_cons_succ]
  refine wpAnyH_take (i := 3) (oi := { dst := some 26, op := Op.move (Operand.tmp 2), type := 23, pos := "l10_bloom.go:42", after := #[], guard := none }) (v := ?_) rfl (by kernel_rfl) (by kernel_rfl) (by kernel_rfl) (fun _ _ _ h => h) (Or.inl ⟨by rfl, ?_⟩) hS0 ?_
  rotate_left
  · intro W hSw
    go_simp
    try with_reducible rfl
  simp only [Act.put, List.setIfInBounds_toArray, List.set_cons_zero, List.set_cons_succ]
  refine wpAnyH_take (i := 5) (oi := { dst := some 28, op := Op.move (Operand.tmp 1), type := 3, pos := "l10_bloom.go:42", after := #[], guard := none }) (v := ?_) rfl (by kernel_rfl) (by kernel_rfl) (by kernel_rfl) (fun _ _ _ h => h) (Or.inl ⟨by rfl, ?_⟩) hS0 ?_
  rotate_left
  · intro W hSw
    go_simp
    try with_reducible rfl
  simp only [Act.put, List.setIfInBounds_toArray, List.set_cons_zero, List.set_cons_succ]
  refine wpAnyH_take (i := 6) (oi := { dst := some 29, op := Op.move (Operand.tmp 2), type := 23, pos := "l10_bloom.go:42", after := #[], guard := none }) (v := ?_) rfl (by kernel_rfl) (by kernel_rfl) (by kernel_rfl) (fun _ _ _ h => h) (Or.inl ⟨by rfl, ?_⟩) hS0 ?_
  rotate_left
  · intro W hSw
    go_simp
    try with_reducible rfl
  simp only [Act.put, List.setIfInBounds_toArray, List.set_cons_zero, List.set_cons_succ]
  refine wpAnyH_take (i := 7) (oi := { dst := some 30, op := Op.call { callee := Callee.builtin Builtin.len, args := #[Operand.tmp 29], argTypes := #[23] }, type := 3, pos := "l10_bloom.go:42", after := #[{ on := 6, ground := Ground.data }], guard := none }) (v := ?_) rfl (by kernel_rfl) (by kernel_rfl) (by kernel_rfl) (fun _ _ _ h => h) (Or.inl ⟨by rfl, ?_⟩) hS0 ?_
  rotate_left
  · intro W hSw
    go_simp
    try with_reducible rfl
  simp only [Act.put, List.setIfInBounds_toArray, List.set_cons_zero, List.set_cons_succ]
  refine wpAnyH_take (i := 8) (oi := { dst := some 31, op := Op.binOp BinOp.mul 3 (Operand.tmp 28) (Operand.tmp 30) 3, type := 3, pos := "l10_bloom.go:42", after := #[{ on := 5, ground := Ground.data }, { on := 7, ground := Ground.data }], guard := none }) (v := ?_) rfl (by kernel_rfl) (by kernel_rfl) (by kernel_rfl) (fun _ _ _ h => h) (Or.inl ⟨by rfl, ?_⟩) hS0 ?_
  rotate_left
  · intro W hSw
    go_simp
    try with_reducible rfl
  simp only [Act.put, List.setIfInBounds_toArray, List.set_cons_zero, List.set_cons_succ]
  obtain ⟨v0, hv0⟩ : ∃ v0, v0 = ({ w1 with drawn := w1.drawn + 1 } : World) := ⟨_, rfl⟩
  have s0 : Below w1.heap.size w1 v0 := by rw [hv0]; exact below_drewN (Below.refl _ _) 1
  have hT : ∀ W, Below w1.heap.size w1 W ∨ True := fun _ => .inr trivial
  rw [← hv0]
  clear hv0 hS0
  refine wpAnyH_two (i := 2) (j := 9) (by kernel_rfl) ?_ ?_
  · have s1 : Below w1.heap.size w1 (v0.alloc (.cells #[] 67)) := bl_al s0
    have bb : Below v0.heap.size v0 (v0.alloc (.cells #[] 67)) := bl_al (Below.refl _ _)
    have oE := World.ownsRow_made v0 (e := 67) (size := 2) #[] 0 (Nat.le_refl _) (Nat.zero_le _) rfl
    have lE : w1.heap.size ≤ v0.heap.size := s0.size
    clear bb
    refine wpOp_step (o := { dst := some 25, op := Op.buildSlice 23 0 #[], type := 23, pos := "l10_bloom.go:42", after := #[], guard := none }) rfl fun K' hK => step_valueW (by rfl) (.slice (some ⟨v0.heap.size, 0, none⟩) 0 0) (v0.alloc (.cells #[] 67)) (by go_simp) ?_
    refine hK _ _ ⟨hT _, ?_⟩
    simp only [Act.put, List.setIfInBounds_toArray, List.set_cons_zero, List.set_cons_succ]
    obtain ⟨gE, hgE⟩ : ∃ gE, gE = v0.heap.size := ⟨_, rfl⟩
    rw [← hgE] at oE lE ⊢
    have jE : gE < (v0.alloc (.cells #[] 67)).heap.size := by rw [hgE]; simp
    generalize v0.alloc (.cells #[] 67) = v1 at *
    clear hgE
    refine wpAnyH_two (i := 4) (j := 9) (by kernel_rfl) ?_ ?_
    · refine wpOp_step (o := { dst := some 27, op := Op.call { callee := Callee.builtin Builtin.append, args := #[Operand.tmp 25, Operand.tmp 26], argTypes := #[23, 23] }, type := 23, pos := "l10_bloom.go:42", after := #[{ on := 2, ground := Ground.data }, { on := 3, ground := Ground.data }], guard := none }) rfl fun K' hK => step_append_salts _ rfl _ _ rfl gE 0 (.slice (some ⟨gE, 0, none⟩) 0 0) [] rfl oE ⟨_, _, rfl⟩ (.slice A ss.length ca) ss rfl ((unhide HV).below s1) (by have := unhide HN; omega) (by omega) ?_
      intro gA cA v2 oR gr
      rw [Nat.zero_add, List.nil_append] at oR
      have s2 : Below w1.heap.size w1 v2 := Below.grown s1 gr s1.size (by intro k hk; cases hk; exact lE)
      have oA := (own_salts oR ⟨_, _, rfl⟩).wide lE (Nat.le_refl _)
      have hA0 : v2.heap.size ≤ v2.heap.size := Nat.le_refl _
      clear oR gr
      refine hK _ _ ⟨hT _, ?_⟩
      simp only [Act.put, List.setIfInBounds_toArray, List.set_cons_zero, List.set_cons_succ]
      refine wpAnyH_one (i := 9) (by kernel_rfl) ?_
      have s3 : Below w1.heap.size w1 (v2.alloc (bolO (List.replicate m false) [])) := bl_al s2
      have bb : Below v2.heap.size v2 (v2.alloc (bolO (List.replicate m false) [])) := bl_al (Below.refl _ _)
      have hB := heap_alloc_new v2 (bolO (List.replicate m false) [])
      have oB : ownB w1.heap.size (v2.alloc (bolO (List.replicate m false) [])).heap.size (v2.alloc (bolO (List.replicate m false) [])) (.slice (some ⟨v2.heap.size, 0, none⟩) m m) (List.replicate m false) := .inr ⟨v2.heap.size, m, [], by simp, s2.size, by simp, hB, by simp⟩
      have hB0 : (v2.alloc (bolO (List.replicate m false) [])).heap.size ≤ (v2.alloc (bolO (List.replicate m false) [])).heap.size := Nat.le_refl _
      have hgB2 : v2.heap.size < (v2.alloc (bolO (List.replicate m false) [])).heap.size := by simp
      have oA := oA.below bb
      have hA0 := Nat.le_trans hA0 bb.size
      have nA := apartT oA oB
      clear bb hB
      refine wpOp_step (o := { dst := some 32, op := Op.makeSlice 24 (Operand.tmp 31) (Operand.tmp 31), type := 24, pos := "l10_bloom.go:42", after := #[{ on := 8, ground := Ground.data }, { on := 8, ground := Ground.data }], guard := none }) rfl fun K' hK => step_valueW (by rfl) (.slice (some ⟨v2.heap.size, 0, none⟩) m m) (v2.alloc (bolO (List.replicate m false) [])) (by go_simp) ?_
      refine hK _ _ ⟨hT _, ?_⟩
      simp only [Act.put, List.setIfInBounds_toArray, List.set_cons_zero, List.set_cons_succ]
      obtain ⟨gB, hgB⟩ : ∃ gB, gB = v2.heap.size := ⟨_, rfl⟩
      rw [← hgB] at oB hgB2 ⊢
      rw [← hgB] at nA
      generalize v2.alloc (bolO (List.replicate m false) []) = v3 at *
      clear hgB
      refine wpAnyH_take (i := 10) (oi := { dst := some 33, op := Op.build 26 #[(0, Operand.tmp 23), (1, Operand.tmp 24), (2, Operand.tmp 27), (3, Operand.tmp 32)], type := 26, pos := "l10_bloom.go:42", after := #[{ on := 0, ground := Ground.data }, { on := 1, ground := Ground.data }, { on := 4, ground := Ground.data }, { on := 9, ground := Ground.data }], guard := none }) (v := ?_) rfl (by kernel_rfl) (by kernel_rfl) (by kernel_rfl) (fun _ _ _ h => h) (Or.inl ⟨by rfl, ?_⟩) (hT v3) ?_
      rotate_left
      · intro W hSw
        go_simp
        try with_reducible rfl
      simp only [Act.put, List.setIfInBounds_toArray, List.set_cons_zero, List.set_cons_succ]
      have n1 := (s3.block w.heap.size (by have := unhide e0; omega)).trans (unhide N0)
      have p0 : v3.cell? ⟨w.heap.size, 0, none⟩ = some (.int .i64 0) := row_cell n1
      have y0 : v3.frozen? ⟨w.heap.size, 0, none⟩ = false := row_free n1
      have p1 : v3.cell? ⟨w.heap.size, 1, none⟩ = some (.int .i64 0) := row_cell n1
      have y1 : v3.frozen? ⟨w.heap.size, 1, none⟩ = false := row_free n1
      have p2 : v3.cell? ⟨w.heap.size, 2, none⟩ = some (.slice none 0 0) := row_cell n1
      have y2 : v3.frozen? ⟨w.heap.size, 2, none⟩ = false := row_free n1
      have p3 : v3.cell? ⟨w.heap.size, 3, none⟩ = some (.slice none 0 0) := row_cell n1
      have y3 : v3.frozen? ⟨w.heap.size, 3, none⟩ = false := row_free n1
      refine wpAnyH_one (i := 11) (by kernel_rfl) ?_
      refine wpOp_step (o := { dst := none, op := Op.store 26 (Operand.tmp 6) (Operand.tmp 33), type := 0, pos := "l10_bloom.go:42", after := #[{ on := 10, ground := Ground.data }, { on := 4, ground := Ground.chain }, { on := 0, ground := Ground.phase }, { on := 1, ground := Ground.phase }, { on := 2, ground := Ground.phase }, { on := 3, ground := Ground.phase }, { on := 4, ground := Ground.phase }, { on := 5, ground := Ground.phase }, { on := 6, ground := Ground.phase }, { on := 7, ground := Ground.phase }, { on := 8, ground := Ground.phase }, { on := 9, ground := Ground.phase }, { on := 10, ground := Ground.phase }], guard := none }) rfl fun K' hK => step_skipW (by rfl) (put4 v3 w.heap.size p (M : Int) (.slice (some ⟨gA, 0, none⟩) ss.length cA) (.slice (some ⟨gB, 0, none⟩) m m)) (by go_simp) ?_
      refine hK _ _ ⟨(hT _), ?_⟩
      try simp only [Act.put]
      refine wpAnyH_take (i := 12) (oi := { dst := some 7, op := Op.assign (Operand.const (Value.int IntKind.i64 0)), type := 3, pos := "l10_bloom.go:42", after := #[{ on := 11, ground := Ground.chain }, { on := 0, ground := Ground.phase }, { on := 1, ground := Ground.phase }, { on := 2, ground := Ground.phase }, { on := 3, ground := Ground.phase }, { on := 4, ground := Ground.phase }, { on := 5, ground := Ground.phase }, { on := 6, ground := Ground.phase }, { on := 7, ground := Ground.phase }, { on := 8, ground := Ground.phase }, { on := 9, ground := Ground.phase }, { on := 10, ground := Ground.phase }, { on := 11, ground := Ground.phase }], guard := none }) (v := ?_) rfl (by kernel_rfl) (by kernel_rfl) (by kernel_rfl) (fun _ _ _ h => h) (Or.inl ⟨by rfl, ?_⟩) (hT _) ?_
      rotate_left
      · intro W hSw
        go_simp
        try with_reducible rfl
      simp only [Act.put, List.setIfInBounds_toArray, List.set_cons_zero, List.set_cons_succ]
      refine wpAnyH_done (by kernel_rfl) ?_ _
      have N3 := hide n1
      have l0 := unhide e0
      clear n1
      go_wp2
      rw [unhide HE]
      refine bodyPost_ret (results_tmp_row rfl _ _ w.heap.size 26 _ (0, 0) _ _ rfl rfl (row_put4 (unhide N3) p (M : Int) (.slice (some ⟨gA, 0, none⟩) ss.length cA) (.slice (some ⟨gB, 0, none⟩) m m)) Try.underlying26 rfl (by kernel_rfl)) rfl ⟨_, rfl, ⟨_, _, rfl, ?_, ?_, nA⟩, bl_put4 (bl_st s3 (unhide HB)) (Nat.le_refl _)⟩
      · refine (oA.lone (lone_put4 v3 w.heap.size p (M : Int) _ _) (by omega)).wide (by omega) ?_
        rw [size_put4]; exact hA0
      · refine (oB.lone (lone_put4 v3 w.heap.size p (M : Int) _ _) (by omega)).wide (by omega) ?_
        rw [size_put4]; exact hB0
    · have s2 : Below w1.heap.size w1 (v1.alloc (bolO (List.replicate m false) [])) := bl_al s1
      have bb : Below v1.heap.size v1 (v1.alloc (bolO (List.replicate m false) [])) := bl_al (Below.refl _ _)
      have hB := heap_alloc_new v1 (bolO (List.replicate m false) [])
      have oB : ownB w1.heap.size (v1.alloc (bolO (List.replicate m false) [])).heap.size (v1.alloc (bolO (List.replicate m false) [])) (.slice (some ⟨v1.heap.size, 0, none⟩) m m) (List.replicate m false) := .inr ⟨v1.heap.size, m, [], by simp, s1.size, by simp, hB, by simp⟩
      have hB0 : (v1.alloc (bolO (List.replicate m false) [])).heap.size ≤ (v1.alloc (bolO (List.replicate m false) [])).heap.size := Nat.le_refl _
      have hgB2 : v1.heap.size < (v1.alloc (bolO (List.replicate m false) [])).heap.size := by simp
      have nE : v1.heap.size ≠ gE := by omega
      have oE := ownsRow_below oE bb
      have jE := Nat.lt_of_lt_of_le jE bb.size
      clear bb hB
      refine wpOp_step (o := { dst := some 32, op := Op.makeSlice 24 (Operand.tmp 31) (Operand.tmp 31), type := 24, pos := "l10_bloom.go:42", after := #[{ on := 8, ground := Ground.data }, { on := 8, ground := Ground.data }], guard := none }) rfl fun K' hK => step_valueW (by rfl) (.slice (some ⟨v1.heap.size, 0, none⟩) m m) (v1.alloc (bolO (List.replicate m false) [])) (by go_simp) ?_
      refine hK _ _ ⟨hT _, ?_⟩
      simp only [Act.put, List.setIfInBounds_toArray, List.set_cons_zero, List.set_cons_succ]
      obtain ⟨gB, hgB⟩ : ∃ gB, gB = v1.heap.size := ⟨_, rfl⟩
      rw [← hgB] at oB hgB2 ⊢
      rw [← hgB] at nE
      generalize v1.alloc (bolO (List.replicate m false) []) = v2 at *
      clear hgB
      refine wpAnyH_one (i := 4) (by kernel_rfl) ?_
      refine wpOp_step (o := { dst := some 27, op := Op.call { callee := Callee.builtin Builtin.append, args := #[Operand.tmp 25, Operand.tmp 26], argTypes := #[23, 23] }, type := 23, pos := "l10_bloom.go:42", after := #[{ on := 2, ground := Ground.data }, { on := 3, ground := Ground.data }], guard := none }) rfl fun K' hK => step_append_salts _ rfl _ _ rfl gE 0 (.slice (some ⟨gE, 0, none⟩) 0 0) [] rfl oE ⟨_, _, rfl⟩ (.slice A ss.length ca) ss rfl ((unhide HV).below s2) (by have := unhide HN; omega) (by omega) ?_
      intro gA cA v3 oR gr
      rw [Nat.zero_add, List.nil_append] at oR
      have s3 : Below w1.heap.size w1 v3 := Below.grown s2 gr s2.size (by intro k hk; cases hk; exact lE)
      have oA := (own_salts oR ⟨_, _, rfl⟩).wide lE (Nat.le_refl _)
      have hA0 : v3.heap.size ≤ v3.heap.size := Nat.le_refl _
      have oB := oB.grown gr (fun g h e => by cases h; cases e; exact nE rfl)
      have hB0 := Nat.le_trans hB0 gr.size
      have nA := apartT oA oB
      clear oR gr
      refine hK _ _ ⟨hT _, ?_⟩
      simp only [Act.put, List.setIfInBounds_toArray, List.set_cons_zero, List.set_cons_succ]
      refine wpAnyH_take (i := 10) (oi := { dst := some 33, op := Op.build 26 #[(0, Operand.tmp 23), (1, Operand.tmp 24), (2, Operand.tmp 27), (3, Operand.tmp 32)], type := 26, pos := "l10_bloom.go:42", after := #[{ on := 0, ground := Ground.data }, { on := 1, ground := Ground.data }, { on := 4, ground := Ground.data }, { on := 9, ground := Ground.data }], guard := none }) (v := ?_) rfl (by kernel_rfl) (by kernel_rfl) (by kernel_rfl) (fun _ _ _ h => h) (Or.inl ⟨by rfl, ?_⟩) (hT v3) ?_
      rotate_left
      · intro W hSw
        go_simp
        try with_reducible rfl
      simp only [Act.put, List.setIfInBounds_toArray, List.set_cons_zero, List.set_cons_succ]
      have n1 := (s3.block w.heap.size (by have := unhide e0; omega)).trans (unhide N0)
      have p0 : v3.cell? ⟨w.heap.size, 0, none⟩ = some (.int .i64 0) := row_cell n1
      have y0 : v3.frozen? ⟨w.heap.size, 0, none⟩ = false := row_free n1
      have p1 : v3.cell? ⟨w.heap.size, 1, none⟩ = some (.int .i64 0) := row_cell n1
      have y1 : v3.frozen? ⟨w.heap.size, 1, none⟩ = false := row_free n1
      have p2 : v3.cell? ⟨w.heap.size, 2, none⟩ = some (.slice none 0 0) := row_cell n1
      have y2 : v3.frozen? ⟨w.heap.size, 2, none⟩ = false := row_free n1
      have p3 : v3.cell? ⟨w.heap.size, 3, none⟩ = some (.slice none 0 0) := row_cell n1
      have y3 : v3.frozen? ⟨w.heap.size, 3, none⟩ = false := row_free n1
      refine wpAnyH_one (i := 11) (by kernel_rfl) ?_
      refine wpOp_step (o := { dst := none, op := Op.store 26 (Operand.tmp 6) (Operand.tmp 33), type := 0, pos := "l10_bloom.go:42", after := #[{ on := 10, ground := Ground.data }, { on := 4, ground := Ground.chain }, { on := 0, ground := Ground.phase }, { on := 1, ground := Ground.phase }, { on := 2, ground := Ground.phase }, { on := 3, ground := Ground.phase }, { on := 4, ground := Ground.phase }, { on := 5, ground := Ground.phase }, { on := 6, ground := Ground.phase }, { on := 7, ground := Ground.phase }, { on := 8, ground := Ground.phase }, { on := 9, ground := Ground.phase }, { on := 10, ground := Ground.phase }], guard := none }) rfl fun K' hK => step_skipW (by rfl) (put4 v3 w.heap.size p (M : Int) (.slice (some ⟨gA, 0, none⟩) ss.length cA) (.slice (some ⟨gB, 0, none⟩) m m)) (by go_simp) ?_
      refine hK _ _ ⟨(hT _), ?_⟩
      try simp only [Act.put]
      refine wpAnyH_take (i := 12) (oi := { dst := some 7, op := Op.assign (Operand.const (Value.int IntKind.i64 0)), type := 3, pos := "l10_bloom.go:42", after := #[{ on := 11, ground := Ground.chain }, { on := 0, ground := Ground.phase }, { on := 1, ground := Ground.phase }, { on := 2, ground := Ground.phase }, { on := 3, ground := Ground.phase }, { on := 4, ground := Ground.phase }, { on := 5, ground := Ground.phase }, { on := 6, ground := Ground.phase }, { on := 7, ground := Ground.phase }, { on := 8, ground := Ground.phase }, { on := 9, ground := Ground.phase }, { on := 10, ground := Ground.phase }, { on := 11, ground := Ground.phase }], guard := none }) (v := ?_) rfl (by kernel_rfl) (by kernel_rfl) (by kernel_rfl) (fun _ _ _ h => h) (Or.inl ⟨by rfl, ?_⟩) (hT _) ?_
      rotate_left
      · intro W hSw
        go_simp
        try with_reducible rfl
      simp only [Act.put, List.setIfInBounds_toArray, List.set_cons_zero, List.set_cons_succ]
      refine wpAnyH_done (by kernel_rfl) ?_ _
      have N3 := hide n1
      have l0 := unhide e0
      clear n1
      go_wp2
      rw [unhide HE]
      refine bodyPost_ret (results_tmp_row rfl _ _ w.heap.size 26 _ (0, 0) _ _ rfl rfl (row_put4 (unhide N3) p (M : Int) (.slice (some ⟨gA, 0, none⟩) ss.length cA) (.slice (some ⟨gB, 0, none⟩) m m)) Try.underlying26 rfl (by kernel_rfl)) rfl ⟨_, rfl, ⟨_, _, rfl, ?_, ?_, nA⟩, bl_put4 (bl_st s3 (unhide HB)) (Nat.le_refl _)⟩
      · refine (oA.lone (lone_put4 v3 w.heap.size p (M : Int) _ _) (by omega)).wide (by omega) ?_
        rw [size_put4]; exact hA0
      · refine (oB.lone (lone_put4 v3 w.heap.size p (M : Int) _ _) (by omega)).wide (by omega) ?_
        rw [size_put4]; exact hB0
  · have s1 : Below w1.heap.size w1 (v0.alloc (bolO (List.replicate m false) [])) := bl_al s0
    have bb : Below v0.heap.size v0 (v0.alloc (bolO (List.replicate m false) [])) := bl_al (Below.refl _ _)
    have hB := heap_alloc_new v0 (bolO (List.replicate m false) [])
    have oB : ownB w1.heap.size (v0.alloc (bolO (List.replicate m false) [])).heap.size (v0.alloc (bolO (List.replicate m false) [])) (.slice (some ⟨v0.heap.size, 0, none⟩) m m) (List.replicate m false) := .inr ⟨v0.heap.size, m, [], by simp, s0.size, by simp, hB, by simp⟩
    have hB0 : (v0.alloc (bolO (List.replicate m false) [])).heap.size ≤ (v0.alloc (bolO (List.replicate m false) [])).heap.size := Nat.le_refl _
    have hgB2 : v0.heap.size < (v0.alloc (bolO (List.replicate m false) [])).heap.size := by simp
    clear bb hB
    refine wpOp_step (o := { dst := some 32, op := Op.makeSlice 24 (Operand.tmp 31) (Operand.tmp 31), type := 24, pos := "l10_bloom.go:42", after := #[{ on := 8, ground := Ground.data }, { on := 8, ground := Ground.data }], guard := none }) rfl fun K' hK => step_valueW (by rfl) (.slice (some ⟨v0.heap.size, 0, none⟩) m m) (v0.alloc (bolO (List.replicate m false) [])) (by go_simp) ?_
    refine hK _ _ ⟨hT _, ?_⟩
    simp only [Act.put, List.setIfInBounds_toArray, List.set_cons_zero, List.set_cons_succ]
    obtain ⟨gB, hgB⟩ : ∃ gB, gB = v0.heap.size := ⟨_, rfl⟩
    rw [← hgB] at oB hgB2 ⊢
    generalize v0.alloc (bolO (List.replicate m false) []) = v1 at *
    clear hgB
    refine wpAnyH_one (i := 2) (by kernel_rfl) ?_
    have s2 : Below w1.heap.size w1 (v1.alloc (.cells #[] 67)) := bl_al s1
    have bb : Below v1.heap.size v1 (v1.alloc (.cells #[] 67)) := bl_al (Below.refl _ _)
    have oE := World.ownsRow_made v1 (e := 67) (size := 2) #[] 0 (Nat.le_refl _) (Nat.zero_le _) rfl
    have lE : w1.heap.size ≤ v1.heap.size := s1.size
    have jB : gB < v1.heap.size := Nat.lt_of_lt_of_le hgB2 hB0
    have nE : gB ≠ v1.heap.size := by omega
    have oB := oB.below bb
    have hB0 := Nat.le_trans hB0 bb.size
    clear jB
    clear bb
    refine wpOp_step (o := { dst := some 25, op := Op.buildSlice 23 0 #[], type := 23, pos := "l10_bloom.go:42", after := #[], guard := none }) rfl fun K' hK => step_valueW (by rfl) (.slice (some ⟨v1.heap.size, 0, none⟩) 0 0) (v1.alloc (.cells #[] 67)) (by go_simp) ?_
    refine hK _ _ ⟨hT _, ?_⟩
    simp only [Act.put, List.setIfInBounds_toArray, List.set_cons_zero, List.set_cons_succ]
    obtain ⟨gE, hgE⟩ : ∃ gE, gE = v1.heap.size := ⟨_, rfl⟩
    rw [← hgE] at oE lE ⊢
    rw [← hgE] at nE
    have jE : gE < (v1.alloc (.cells #[] 67)).heap.size := by rw [hgE]; simp
    generalize v1.alloc (.cells #[] 67) = v2 at *
    clear hgE
    refine wpAnyH_one (i := 4) (by kernel_rfl) ?_
    refine wpOp_step (o := { dst := some 27, op := Op.call { callee := Callee.builtin Builtin.append, args := #[Operand.tmp 25, Operand.tmp 26], argTypes := #[23, 23] }, type := 23, pos := "l10_bloom.go:42", after := #[{ on := 2, ground := Ground.data }, { on := 3, ground := Ground.data }], guard := none }) rfl fun K' hK => step_append_salts _ rfl _ _ rfl gE 0 (.slice (some ⟨gE, 0, none⟩) 0 0) [] rfl oE ⟨_, _, rfl⟩ (.slice A ss.length ca) ss rfl ((unhide HV).below s2) (by have := unhide HN; omega) (by omega) ?_
    intro gA cA v3 oR gr
    rw [Nat.zero_add, List.nil_append] at oR
    have s3 : Below w1.heap.size w1 v3 := Below.grown s2 gr s2.size (by intro k hk; cases hk; exact lE)
    have oA := (own_salts oR ⟨_, _, rfl⟩).wide lE (Nat.le_refl _)
    have hA0 : v3.heap.size ≤ v3.heap.size := Nat.le_refl _
    have oB := oB.grown gr (fun g h e => by cases h; cases e; exact nE rfl)
    have hB0 := Nat.le_trans hB0 gr.size
    have nA := apartT oA oB
    clear oR gr
    refine hK _ _ ⟨hT _, ?_⟩
    simp only [Act.put, List.setIfInBounds_toArray, List.set_cons_zero, List.set_cons_succ]
    refine wpAnyH_take (i := 10) (oi := { dst := some 33, op := Op.build 26 #[(0, Operand.tmp 23), (1, Operand.tmp 24), (2, Operand.tmp 27), (3, Operand.tmp 32)], type := 26, pos := "l10_bloom.go:42", after := #[{ on := 0, ground := Ground.data }, { on := 1, ground := Ground.data }, { on := 4, ground := Ground.data }, { on := 9, ground := Ground.data }], guard := none }) (v := ?_) rfl (by kernel_rfl) (by kernel_rfl) (by kernel_rfl) (fun _ _ _ h => h) (Or.inl ⟨by rfl, ?_⟩) (hT v3) ?_
    rotate_left
    · intro W hSw
      go_simp
      try with_reducible rfl
    simp only [Act.put, List.setIfInBounds_toArray, List.set_cons_zero, List.set_cons_succ]
    have n1 := (s3.block w.heap.size (by have := unhide e0; omega)).trans (unhide N0)
    have p0 : v3.cell? ⟨w.heap.size, 0, none⟩ = some (.int .i64 0) := row_cell n1
    have y0 : v3.frozen? ⟨w.heap.size, 0, none⟩ = false := row_free n1
    have p1 : v3.cell? ⟨w.heap.size, 1, none⟩ = some (.int .i64 0) := row_cell n1
    have y1 : v3.frozen? ⟨w.heap.size, 1, none⟩ = false := row_free n1
    have p2 : v3.cell? ⟨w.heap.size, 2, none⟩ = some (.slice none 0 0) := row_cell n1
    have y2 : v3.frozen? ⟨w.heap.size, 2, none⟩ = false := row_free n1
    have p3 : v3.cell? ⟨w.heap.size, 3, none⟩ = some (.slice none 0 0) := row_cell n1
    have y3 : v3.frozen? ⟨w.heap.size, 3, none⟩ = false := row_free n1
    refine wpAnyH_one (i := 11) (by kernel_rfl) ?_
    refine wpOp_step (o := { dst := none, op := Op.store 26 (Operand.tmp 6) (Operand.tmp 33), type := 0, pos := "l10_bloom.go:42", after := #[{ on := 10, ground := Ground.data }, { on := 4, ground := Ground.chain }, { on := 0, ground := Ground.phase }, { on := 1, ground := Ground.phase }, { on := 2, ground := Ground.phase }, { on := 3, ground := Ground.phase }, { on := 4, ground := Ground.phase }, { on := 5, ground := Ground.phase }, { on := 6, ground := Ground.phase }, { on := 7, ground := Ground.phase }, { on := 8, ground := Ground.phase }, { on := 9, ground := Ground.phase }, { on := 10, ground := Ground.phase }], guard := none }) rfl fun K' hK => step_skipW (by rfl) (put4 v3 w.heap.size p (M : Int) (.slice (some ⟨gA, 0, none⟩) ss.length cA) (.slice (some ⟨gB, 0, none⟩) m m)) (by go_simp) ?_
    refine hK _ _ ⟨(hT _), ?_⟩
    try simp only [Act.put]
    refine wpAnyH_take (i := 12) (oi := { dst := some 7, op := Op.assign (Operand.const (Value.int IntKind.i64 0)), type := 3, pos := "l10_bloom.go:42", after := #[{ on := 11, ground := Ground.chain }, { on := 0, ground := Ground.phase }, { on := 1, ground := Ground.phase }, { on := 2, ground := Ground.phase }, { on := 3, ground := Ground.phase }, { on := 4, ground := Ground.phase }, { on := 5, ground := Ground.phase }, { on := 6, ground := Ground.phase }, { on := 7, ground := Ground.phase }, { on := 8, ground := Ground.phase }, { on := 9, ground := Ground.phase }, { on := 10, ground := Ground.phase }, { on := 11, ground := Ground.phase }], guard := none }) (v := ?_) rfl (by kernel_rfl) (by kernel_rfl) (by kernel_rfl) (fun _ _ _ h => h) (Or.inl ⟨by rfl, ?_⟩) (hT _) ?_
    rotate_left
    · intro W hSw
      go_simp
      try with_reducible rfl
    simp only [Act.put, List.setIfInBounds_toArray, List.set_cons_zero, List.set_cons_succ]
    refine wpAnyH_done (by kernel_rfl) ?_ _
    have N3 := hide n1
    have l0 := unhide e0
    clear n1
    go_wp2
    rw [unhide HE]
    refine bodyPost_ret (results_tmp_row rfl _ _ w.heap.size 26 _ (0, 0) _ _ rfl rfl (row_put4 (unhide N3) p (M : Int) (.slice (some ⟨gA, 0, none⟩) ss.length cA) (.slice (some ⟨gB, 0, none⟩) m m)) Try.underlying26 rfl (by kernel_rfl)) rfl ⟨_, rfl, ⟨_, _, rfl, ?_, ?_, nA⟩, bl_put4 (bl_st s3 (unhide HB)) (Nat.le_refl _)⟩
    · refine (oA.lone (lone_put4 v3 w.heap.size p (M : Int) _ _) (by omega)).wide (by omega) ?_
      rw [size_put4]; exact hA0
    · refine (oB.lone (lone_put4 v3 w.heap.size p (M : Int) _ _) (by omega)).wide (by omega) ?_
      rw [size_put4]; exact hB0
end Go.Proofs.Ythckgccfjpgbaaa
