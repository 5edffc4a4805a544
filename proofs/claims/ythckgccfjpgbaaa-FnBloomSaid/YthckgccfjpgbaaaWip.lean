/- A filter made of words, and the parts that the program makes it of. -/
import Derived.Test.YthckgccfjpgbaaaWpt
import Derived.Test.YthckgccfjpgbaaaApp
namespace Go.Proofs.Ythckgccfjpgbaaa
open Go.RowKit
set_option maxHeartbeats 4000000
set_option maxRecDepth 20000
theorem wpAnyH_three {P : Program} {md : Region.Mode} {ops : Array Oper} {Q : Exit → Act → World → Prop} {S : World → Prop} {fuel : Nat} {listed : Array Bool} {a : Act} {w : World} {i j k : Nat} (hr : Region.ready md ops listed = [i, j, k])
    (h1 : wpOp P ops Q i (fun a' w' => S w' ∧ wpAnyH P md ops Q S fuel (listed.setIfInBounds i true) a' w') a w)
    (h2 : wpOp P ops Q j (fun a' w' => S w' ∧ wpAnyH P md ops Q S fuel (listed.setIfInBounds j true) a' w') a w)
    (h3 : wpOp P ops Q k (fun a' w' => S w' ∧ wpAnyH P md ops Q S fuel (listed.setIfInBounds k true) a' w') a w) : wpAnyH P md ops Q S (fuel + 1) listed a w :=
  wpAnyH_all hr (by simp) fun n hn => by
    rcases List.mem_cons.1 hn with rfl | hn
    · exact h1
    · rcases List.mem_cons.1 hn with rfl | hn
      · exact h2
      · obtain rfl : n = k := by simpa using hn
        exact h3
/-- the bits that words hold, place by place -/
def bitsOf (W n : Nat) (f : Nat → Nat → Bool) : List Bool := (List.range (n * W)).map fun k => f (k / W) (k % W)
theorem bitsOf_len (W n : Nat) (f : Nat → Nat → Bool) : (bitsOf W n f).length = n * W := by simp [bitsOf]
theorem bitsOf_at {W n : Nat} {f : Nat → Nat → Bool} {k : Nat} (h : k < n * W) : (bitsOf W n f).getD k false = f (k / W) (k % W) := by
  rw [List.getD_eq_getElem?_getD, bitsOf, List.getElem?_map, List.getElem?_range h]; rfl
theorem ownA.loneN {q lo hi : Nat} {w w' : World} {v : Value} {xs : List Slt} (h : ownA lo hi w v xs) (hl : Lone q w w') (hq : ∀ g, v.ownBlock = some g → q ≠ g) : ownA lo hi w' v xs := by
  obtain h | ⟨g, cap, rest, rfl, hg, hh, hc, hcp⟩ := h
  · exact .inl h
  · exact .inr ⟨g, cap, rest, rfl, hg, hh, (hl.block g (Array.getElem?_eq_some_iff.1 hc).1 (fun e => hq g rfl e.symm)).trans hc, hcp⟩
theorem BC.lone {q g : Nat} {p wd : Int} {a b : Value} {W W' : World} (h : BC q p wd a b W) (hl : Lone g W W') (hne : g ≠ q) : BC q p wd a b W' := by
  have hc : ∀ k, W'.cell? ⟨q, k, none⟩ = W.cell? ⟨q, k, none⟩ := fun k => by
    unfold World.cell?
    rw [show (⟨q, k, none⟩ : Addr).block = q from rfl, hl.block q h.lt (fun e => hne e.symm)]
  exact ⟨Nat.lt_of_lt_of_le h.lt hl.size, (hc 0).trans h.c0, (hc 1).trans h.c1, (hc 2).trans h.c2, (hc 3).trans h.c3⟩
theorem with48 (q g : Nat) (p : Int) (M n : Nat) (a b : Value) (ss : List Slt) (us : List Nat) (rest : List Value) (cp : Nat) (f : Nat → Nat → Bool) (w : World) (hq : BC q p (M : Int) a b w) (ha : saltsV w a ss) (hn : ss.length = n) (n1 : 1 ≤ n) (n4 : n ≤ 4) (M1 : 1 ≤ M) (M64 : M ≤ 64) (hg : w.heap[g]? = some (wrdO us rest)) (hh : holds M n us f) :
    Calls Try.prog 48 #[ptr q, .slice (some ⟨g, 0, none⟩) n cp] w fun e w' => ∃ r, e = .returned r ∧ ownX w.heap.size w'.heap.size w' r ⟨p, (M : Int), ss, bitsOf M n f⟩ ∧ Below w.heap.size w w' := by
  obtain ⟨A, ca, rfl⟩ := ha.slice
  rw [hn] at hq ha
  have BA : Below w.heap.size w (w.alloc (.cells #[.int .i64 0, .int .i64 0, .slice none 0 0, .slice none 0 0] 26)) := bl_al (Below.refl _ _)
  have CQ := hide hq
  have C1 := hide (hq.below BA)
  have S1 := hide (ha.below BA)
  have B1 := hide BA
  have N1 := hide (heap_alloc_new w (.cells #[.int .i64 0, .int .i64 0, .slice none 0 0, .slice none 0 0] 26))
  have G1 := hide ((BA.block g (Array.getElem?_eq_some_iff.1 hg).1).trans hg)
  have HH := hide hh
  have LG := hide (Array.getElem?_eq_some_iff.1 hg).1
  obtain ⟨m, hm⟩ : ∃ m : Nat, n * M = m := ⟨_, rfl⟩
  have mI : (n : Int) * (M : Int) = (m : Int) := by rw [← hm]; simp
  have m256 : m ≤ 256 := by rw [← hm]; have : n * M ≤ 4 * 64 := Nat.mul_le_mul n4 M64; omega
  have m1 : 1 ≤ m := by rw [← hm]; exact Nat.mul_pos n1 M1
  have mk := make_bools m (by omega)
  have wk : IntKind.i64.wrap (m : Int) = (m : Int) := by rw [IntKind.wrap_i64]; omega
  have CLO := hide (fun W (h : saltsV W (.slice A n ca) ss) => clone78 (.slice A n ca) ss W h (by omega))
  have S0 : Hid (w.heap.size < (w.alloc (.cells #[.int .i64 0, .int .i64 0, .slice none 0 0, .slice none 0 0] 26)).heap.size) := hide (by simp)
  have HM := hide hm
  have HN := hide hn
  have HM1 := hide M1
  have HM64 := hide M64
  have Hm1 := hide m1
  have n0 : (0 : Int) ≤ (n : Int) := by omega
  have nI : (n : Int) ≤ 4 := by omega
  have MI1 : (1 : Int) ≤ (M : Int) := by omega
  have MI64 : (M : Int) ≤ 64 := by omega
  have mI0 : (0 : Int) ≤ (m : Int) := by omega
  have mI2 : (m : Int) ≤ 256 := by omega
  clear BA hq ha hg hh hm hn n1 n4 M1 M64 m1 m256
  go_enter Try.func48, Try.ntmps48
  go_wp2
  rename_i Q' K hK
  generalize w.alloc (.cells #[.int .i64 0, .int .i64 0, .slice none 0 0, .slice none 0 0] 26) = w1 at *
  suffices main : ∀ (Ar : Option Addr) (cr gB gX : Nat) (W5 : World), W5.heap[gX]? = some (.cells #[.int .i64 p, .int .i64 (M : Int), .slice Ar n cr, .slice (some ⟨gB, 0, none⟩) m m] 26 (0, 0)) → W5.heap[gB]? = some (bolO (List.replicate m false) []) → ownA w1.heap.size W5.heap.size W5 (.slice Ar n cr) ss → gX ≠ gB → w1.heap.size ≤ gX → w1.heap.size ≤ gB → (∀ g, (Value.slice Ar n cr).ownBlock = some g → g ≠ gB) → Below w1.heap.size w1 W5 →
      Exit.then K Q' .normal { tmps := #[ptr q, .slice (some ⟨g, 0, none⟩) n cp, undef, undef, .pointer (some ⟨w.heap.size, 0, none⟩), .pointer (some ⟨gX, 0, none⟩), undef, ptr q, .pointer (some ⟨q, 0, none⟩), .pointer (some ⟨q, 0, none⟩), .int .i64 p, ptr q, .pointer (some ⟨q, 0, none⟩), .pointer (some ⟨q, 1, none⟩), .int .i64 (M : Int), ptr q, .pointer (some ⟨q, 0, none⟩), .pointer (some ⟨q, 2, none⟩), .slice A n ca, .slice Ar n cr, .slice (some ⟨g, 0, none⟩) n cp, .int .i64 (n : Int), ptr q, .pointer (some ⟨q, 0, none⟩), .pointer (some ⟨q, 1, none⟩), .int .i64 (M : Int), .int .i64 (m : Int), .slice (some ⟨gB, 0, none⟩) m m, bloV p (M : Int) (.slice Ar n cr) (.slice (some ⟨gB, 0, none⟩) m m), undef, undef, undef, undef, undef, undef, undef, undef, undef, undef, undef, undef, undef, undef, undef, undef, undef, undef, undef, undef, undef, undef, undef, undef, undef, undef, undef], defers := [] } W5 by
    refine wp_region_held (S := fun W' => Below w1.heap.size w1 W') (by kernel_rfl) ?_
    have hS0 : Below w1.heap.size w1 { w1 with drawn := w1.drawn + 1 } := below_drewN (Below.refl _ _) 1
    refine wpAnyH_take (i := 0) (oi := { dst := some 7, op := Op.move (Operand.tmp 0), type := 94, pos := "l10_bloom.go:71", after := #[], guard := none }) (v := ?_) rfl (by kernel_rfl) (by kernel_rfl) (by kernel_rfl) (fun _ _ _ h => h) (Or.inl ⟨by rfl, ?_⟩) hS0 ?_
    rotate_left
    · intro W hSw
      obtain ⟨_, c0, c1, c2, c3⟩ := (unhide C1).below hSw
      go_simp
      try with_reducible rfl
    simp only [Act.put, List.setIfInBounds_toArray, List.set_cons_zero, List.set_cons_succ]
    refine wpAnyH_take (i := 1) (oi := { dst := some 8, op := Op.nilCheck (Operand.tmp 7), type := 0, pos := "l10_bloom.go:71", after := #[{ on := 0, ground := Ground.data }], guard := none }) (v := ?_) rfl (by kernel_rfl) (by kernel_rfl) (by kernel_rfl) (fun _ _ _ h => h) (Or.inl ⟨by rfl, ?_⟩) hS0 ?_
    rotate_left
    · intro W hSw
      obtain ⟨_, c0, c1, c2, c3⟩ := (unhide C1).below hSw
      go_simp
      try with_reducible rfl
    simp only [Act.put, List.setIfInBounds_toArray, List.set_cons_zero, List.set_cons_succ]
    refine wpAnyH_take (i := 2) (oi := { dst := some 9, op := Op.fieldAddr 26 (Operand.tmp 8) 0, type := 0, pos := "l10_bloom.go:71", after := #[{ on := 1, ground := Ground.data }], guard := none }) (v := ?_) rfl (by kernel_rfl) (by kernel_rfl) (by kernel_rfl) (fun _ _ _ h => h) (Or.inl ⟨by rfl, ?_⟩) hS0 ?_
    rotate_left
    · intro W hSw
      obtain ⟨_, c0, c1, c2, c3⟩ := (unhide C1).below hSw
      go_simp
      try with_reducible rfl
    simp only [Act.put, List.setIfInBounds_toArray, List.set_cons_zero, List.set_cons_succ]
    refine wpAnyH_take (i := 3) (oi := { dst := some 10, op := Op.load 3 (Operand.tmp 9), type := 3, pos := "l10_bloom.go:71", after := #[{ on := 2, ground := Ground.data }], guard := none }) (v := ?_) rfl (by kernel_rfl) (by kernel_rfl) (by kernel_rfl) (fun _ _ _ h => h) (Or.inl ⟨by rfl, ?_⟩) hS0 ?_
    rotate_left
    · intro W hSw
      obtain ⟨_, c0, c1, c2, c3⟩ := (unhide C1).below hSw
      go_simp
      try with_reducible rfl
    simp only [Act.put, List.setIfInBounds_toArray, List.set_cons_zero, List.set_cons_succ]
    refine wpAnyH_take (i := 4) (oi := { dst := some 11, op := Op.move (Operand.tmp 0), type := 94, pos := "l10_bloom.go:71", after := #[], guard := none }) (v := ?_) rfl (by kernel_rfl) (by kernel_rfl) (by kernel_rfl) (fun _ _ _ h => h) (Or.inl ⟨by rfl, ?_⟩) hS0 ?_
    rotate_left
    · intro W hSw
      obtain ⟨_, c0, c1, c2, c3⟩ := (unhide C1).below hSw
      go_simp
      try with_reducible rfl
    simp only [Act.put, List.setIfInBounds_toArray, List.set_cons_zero, List.set_cons_succ]
    refine wpAnyH_take (i := 5) (oi := { dst := some 12, op := Op.nilCheck (Operand.tmp 11), type := 0, pos := "l10_bloom.go:71", after := #[{ on := 4, ground := Ground.data }], guard := none }) (v := ?_) rfl (by kernel_rfl) (by kernel_rfl) (by kernel_rfl) (fun _ _ _ h => h) (Or.inl ⟨by rfl, ?_⟩) hS0 ?_
    rotate_left
    · intro W hSw
      obtain ⟨_, c0, c1, c2, c3⟩ := (unhide C1).below hSw
      go_simp
      try with_reducible rfl
    simp only [Act.put, List.setIfInBounds_toArray, List.set_cons_zero, List.set_cons_succ]
    refine wpAnyH_take (i := 6) (oi := { dst := some 13, op := Op.fieldAddr 26 (Operand.tmp 12) 1, type := 0, pos := "l10_bloom.go:71", after := #[{ on := 5, ground := Ground.data }], guard := none }) (v := ?_) rfl (by kernel_rfl) (by kernel_rfl) (by kernel_rfl) (fun _ _ _ h => h) (Or.inl ⟨by rfl, ?_⟩) hS0 ?_
    rotate_left
    · intro W hSw
      obtain ⟨_, c0, c1, c2, c3⟩ := (unhide C1).below hSw
      go_simp
      try with_reducible rfl
    simp only [Act.put, List.setIfInBounds_toArray, List.set_cons_zero, List.set_cons_succ]
    refine wpAnyH_take (i := 7) (oi := { dst := some 14, op := Op.load 3 (Operand.tmp 13), type := 3, pos := "l10_bloom.go:71", after := #[{ on := 6, ground := Ground.data }], guard := none }) (v := ?_) rfl (by kernel_rfl) (by kernel_rfl) (by kernel_rfl) (fun _ _ _ h => h) (Or.inl ⟨by rfl, ?_⟩) hS0 ?_
    rotate_left
    · intro W hSw
      obtain ⟨_, c0, c1, c2, c3⟩ := (unhide C1).below hSw
      go_simp
      try with_reducible rfl
    simp only [Act.put, List.setIfInBounds_toArray, List.set_cons_zero, List.set_cons_succ]
    refine wpAnyH_take (i := 8) (oi := { dst := some 15, op := Op.move (Operand.tmp 0), type := 94, pos := "l10_bloom.go:71", after := #[], guard := none }) (v := ?_) rfl (by kernel_rfl) (by kernel_rfl) (by kernel_rfl) (fun _ _ _ h => h) (Or.inl ⟨by rfl, ?_⟩) hS0 ?_
    rotate_left
    · intro W hSw
      obtain ⟨_, c0, c1, c2, c3⟩ := (unhide C1).below hSw
      go_simp
      try with_reducible rfl
    simp only [Act.put, List.setIfInBounds_toArray, List.set_cons_zero, List.set_cons_succ]
    refine wpAnyH_take (i := 9) (oi := { dst := some 16, op := Op.nilCheck (Operand.tmp 15), type := 0, pos := "l10_bloom.go:71", after := #[{ on := 8, ground := Ground.data }], guard := none }) (v := ?_) rfl (by kernel_rfl) (by kernel_rfl) (by kernel_rfl) (fun _ _ _ h => h) (Or.inl ⟨by rfl, ?_⟩) hS0 ?_
    rotate_left
    · intro W hSw
      obtain ⟨_, c0, c1, c2, c3⟩ := (unhide C1).below hSw
      go_simp
      try with_reducible rfl
    simp only [Act.put, List.setIfInBounds_toArray, List.set_cons_zero, List.set_cons_succ]
    refine wpAnyH_take (i := 10) (oi := { dst := some 17, op := Op.fieldAddr 26 (Operand.tmp 16) 2, type := 0, pos := "l10_bloom.go:71", after := #[{ on := 9, ground := Ground.data }], guard := none }) (v := ?_) rfl (by kernel_rfl) (by kernel_rfl) (by kernel_rfl) (fun _ _ _ h => h) (Or.inl ⟨by rfl, ?_⟩) hS0 ?_
    rotate_left
    · intro W hSw
      obtain ⟨_, c0, c1, c2, c3⟩ := (unhide C1).below hSw
      go_simp
      try with_reducible rfl
    simp only [Act.put, List.setIfInBounds_toArray, List.set_cons_zero, List.set_cons_succ]
    refine wpAnyH_take (i := 11) (oi := { dst := some 18, op := Op.load 23 (Operand.tmp 17), type := 23, pos := "l10_bloom.go:71", after := #[{ on := 10, ground := Ground.data }], guard := none }) (v := ?_) rfl (by kernel_rfl) (by kernel_rfl) (by kernel_rfl) (fun _ _ _ h => h) (Or.inl ⟨by rfl, ?_⟩) hS0 ?_
    rotate_left
    · intro W hSw
      obtain ⟨_, c0, c1, c2, c3⟩ := (unhide C1).below hSw
      go_simp
      try with_reducible rfl
    simp only [Act.put, List.setIfInBounds_toArray, List.set_cons_zero, List.set_cons_succ]
    refine wpAnyH_take (i := 13) (oi := { dst := some 20, op := Op.move (Operand.tmp 1), type := 70, pos := "l10_bloom.go:71", after := #[], guard := none }) (v := ?_) rfl (by kernel_rfl) (by kernel_rfl) (by kernel_rfl) (fun _ _ _ h => h) (Or.inl ⟨by rfl, ?_⟩) hS0 ?_
    rotate_left
    · intro W hSw
      obtain ⟨_, c0, c1, c2, c3⟩ := (unhide C1).below hSw
      go_simp
      try with_reducible rfl
    simp only [Act.put, List.setIfInBounds_toArray, List.set_cons_zero, List.set_cons_succ]
    refine wpAnyH_take (i := 14) (oi := { dst := some 21, op := Op.call { callee := Callee.builtin Builtin.len, args := #[Operand.tmp 20], argTypes := #[70] }, type := 3, pos := "l10_bloom.go:71", after := #[{ on := 13, ground := Ground.data }], guard := none }) (v := ?_) rfl (by kernel_rfl) (by kernel_rfl) (by kernel_rfl) (fun _ _ _ h => h) (Or.inl ⟨by rfl, ?_⟩) hS0 ?_
    rotate_left
    · intro W hSw
      obtain ⟨_, c0, c1, c2, c3⟩ := (unhide C1).below hSw
      go_simp
      try with_reducible rfl
    simp only [Act.put, List.setIfInBounds_toArray, List.set_cons_zero, List.set_cons_succ]
    refine wpAnyH_take (i := 15) (oi := { dst := some 22, op := Op.move (Operand.tmp 0), type := 94, pos := "l10_bloom.go:71", after := #[], guard := none }) (v := ?_) rfl (by kernel_rfl) (by kernel_rfl) (by kernel_rfl) (fun _ _ _ h => h) (Or.inl ⟨by rfl, ?_⟩) hS0 ?_
    rotate_left
    · intro W hSw
      obtain ⟨_, c0, c1, c2, c3⟩ := (unhide C1).below hSw
      go_simp
      try with_reducible rfl
    simp only [Act.put, List.setIfInBounds_toArray, List.set_cons_zero, List.set_cons_succ]
    refine wpAnyH_take (i := 16) (oi := { dst := some 23, op := Op.nilCheck (Operand.tmp 22), type := 0, pos := "l10_bloom.go:71", after := #[{ on := 15, ground := Ground.data }], guard := none }) (v := ?_) rfl (by kernel_rfl) (by kernel_rfl) (by kernel_rfl) (fun _ _ _ h => h) (Or.inl ⟨by rfl, ?_⟩) hS0 ?_
    rotate_left
    · intro W hSw
      obtain ⟨_, c0, c1, c2, c3⟩ := (unhide C1).below hSw
      go_simp
      try with_reducible rfl
    simp only [Act.put, List.setIfInBounds_toArray, List.set_cons_zero, List.set_cons_succ]
    refine wpAnyH_take (i := 17) (oi := { dst := some 24, op := Op.fieldAddr 26 (Operand.tmp 23) 1, type := 0, pos := "l10_bloom.go:71", after := #[{ on := 16, ground := Ground.data }], guard := none }) (v := ?_) rfl (by kernel_rfl) (by kernel_rfl) (by kernel_rfl) (fun _ _ _ h => h) (Or.inl ⟨by rfl, ?_⟩) hS0 ?_
    rotate_left
    · intro W hSw
      obtain ⟨_, c0, c1, c2, c3⟩ := (unhide C1).below hSw
      go_simp
      try with_reducible rfl
    simp only [Act.put, List.setIfInBounds_toArray, List.set_cons_zero, List.set_cons_succ]
    refine wpAnyH_take (i := 18) (oi := { dst := some 25, op := Op.load 3 (Operand.tmp 24), type := 3, pos := "l10_bloom.go:71", after := #[{ on := 17, ground := Ground.data }], guard := none }) (v := ?_) rfl (by kernel_rfl) (by kernel_rfl) (by kernel_rfl) (fun _ _ _ h => h) (Or.inl ⟨by rfl, ?_⟩) hS0 ?_
    rotate_left
    · intro W hSw
      obtain ⟨_, c0, c1, c2, c3⟩ := (unhide C1).below hSw
      go_simp
      try with_reducible rfl
    simp only [Act.put, List.setIfInBounds_toArray, List.set_cons_zero, List.set_cons_succ]
    refine wpAnyH_take (i := 19) (oi := { dst := some 26, op := Op.binOp BinOp.mul 3 (Operand.tmp 21) (Operand.tmp 25) 3, type := 3, pos := "l10_bloom.go:71", after := #[{ on := 14, ground := Ground.data }, { on := 18, ground := Ground.data }], guard := none }) (v := ?_) rfl (by kernel_rfl) (by kernel_rfl) (by kernel_rfl) (fun _ _ _ h => h) (Or.inl ⟨by rfl, ?_⟩) hS0 ?_
    rotate_left
    · intro W hSw
      obtain ⟨_, c0, c1, c2, c3⟩ := (unhide C1).below hSw
      go_simp
      try with_reducible rfl
    simp only [Act.put, List.setIfInBounds_toArray, List.set_cons_zero, List.set_cons_succ]
    obtain ⟨v0, hv0⟩ : ∃ v0, v0 = ({ w1 with drawn := w1.drawn + 1 } : World) := ⟨_, rfl⟩
    have s0 : Below w1.heap.size w1 v0 := by rw [hv0]; exact hS0
    rw [← hv0]
    clear hv0 hS0
    refine wpAnyH_three (i := 12) (j := 20) (k := 22) (by kernel_rfl) ?_ ?_ ?_
    · refine wpOp_step (o := { dst := some 19, op := Op.call { callee := Callee.value (Operand.func 78), args := #[Operand.tmp 18], argTypes := #[23] }, type := 23, pos := "l10_bloom.go:71", after := #[{ on := 11, ground := Ground.data }], guard := none }) rfl fun K' hK => step_enterW (by rfl) 78 #[.slice A n ca] (by go_simp) ((unhide CLO v0 ((unhide S1).below s0)).mono ?_)
      rintro e v1 ⟨rA, rfl, oA, b⟩
      have s1 := bl_st b s0
      have hA0 : v1.heap.size ≤ v1.heap.size := Nat.le_refl _
      have lA0 : w1.heap.size ≤ v0.heap.size := s0.size
      have kA := oA.lies
      obtain ⟨Ar, cr, rfl⟩ := oA.salts.slice
      rw [unhide HN] at oA kA ⊢
      clear b
      refine ⟨_, rfl, hK _ _ ⟨s1, ?_⟩⟩
      simp only [Act.put, List.setIfInBounds_toArray, List.set_cons_zero, List.set_cons_succ]
      refine wpAnyH_two (i := 20) (j := 22) (by kernel_rfl) ?_ ?_
      · have s2 : Below w1.heap.size w1 (v1.alloc (bolO (List.replicate m false) [])) := bl_al s1
        have bb : Below v1.heap.size v1 (v1.alloc (bolO (List.replicate m false) [])) := bl_al (Below.refl _ _)
        have hB := heap_alloc_new v1 (bolO (List.replicate m false) [])
        have lB : w1.heap.size ≤ v1.heap.size := s1.size
        have nA : ∀ g, (Value.slice Ar n cr).ownBlock = some g → g ≠ v1.heap.size := fun g h => by have := kA g h; omega
        have oA := oA.below bb
        have hA0 := Nat.le_trans hA0 bb.size
        clear bb
        refine wpOp_step (o := { dst := some 27, op := Op.makeSlice 24 (Operand.tmp 26) (Operand.tmp 26), type := 24, pos := "l10_bloom.go:71", after := #[{ on := 19, ground := Ground.data }, { on := 19, ground := Ground.data }], guard := none }) rfl fun K' hK => step_valueW (by rfl) (.slice (some ⟨v1.heap.size, 0, none⟩) m m) (v1.alloc (bolO (List.replicate m false) [])) (by go_simp) ?_
        refine hK _ _ ⟨s2, ?_⟩
        simp only [Act.put, List.setIfInBounds_toArray, List.set_cons_zero, List.set_cons_succ]
        obtain ⟨gB, hgB⟩ : ∃ gB, gB = v1.heap.size := ⟨_, rfl⟩
        rw [← hgB] at hB lB ⊢
        rw [← hgB] at nA
        generalize v1.alloc (bolO (List.replicate m false) []) = v2 at *
        clear hgB
        refine wpAnyH_take (i := 21) (oi := { dst := some 28, op := Op.build 26 #[(0, Operand.tmp 10), (1, Operand.tmp 14), (2, Operand.tmp 19), (3, Operand.tmp 27)], type := 26, pos := "l10_bloom.go:71", after := #[{ on := 3, ground := Ground.data }, { on := 7, ground := Ground.data }, { on := 12, ground := Ground.data }, { on := 20, ground := Ground.data }], guard := none }) (v := ?_) rfl (by kernel_rfl) (by kernel_rfl) (by kernel_rfl) (fun _ _ _ h => h) (Or.inl ⟨by rfl, ?_⟩) s2 ?_
        rotate_left
        · intro W hSw
          go_simp
          try with_reducible rfl
        simp only [Act.put, List.setIfInBounds_toArray, List.set_cons_zero, List.set_cons_succ]
        refine wpAnyH_one (i := 22) (by kernel_rfl) ?_
        have s3 : Below w1.heap.size w1 (v2.alloc (.cells #[.int .i64 0, .int .i64 0, .slice none 0 0, .slice none 0 0] 26)) := bl_al s2
        have bb : Below v2.heap.size v2 (v2.alloc (.cells #[.int .i64 0, .int .i64 0, .slice none 0 0, .slice none 0 0] 26)) := bl_al (Below.refl _ _)
        have hX := heap_alloc_new v2 (.cells #[.int .i64 0, .int .i64 0, .slice none 0 0, .slice none 0 0] 26)
        have lX : w1.heap.size ≤ v2.heap.size := s2.size
        have nA2 : ∀ g, (Value.slice Ar n cr).ownBlock = some g → v2.heap.size ≠ g := fun g h => by have := kA g h; omega
        have oA := oA.below bb
        have hA0 := Nat.le_trans hA0 bb.size
        have jB := (Array.getElem?_eq_some_iff.1 hB).1
        have nXB : v2.heap.size ≠ gB := by omega
        have hB := (bb.block _ jB).trans hB
        clear jB
        clear bb
        refine wpOp_step (o := { dst := some 5, op := Op.alloc 26, type := 0, pos := "l10_bloom.go:71", after := #[], guard := none }) rfl fun K' hK => step_valueW (by rfl) (.pointer (some ⟨v2.heap.size, 0, none⟩)) (v2.alloc (.cells #[.int .i64 0, .int .i64 0, .slice none 0 0, .slice none 0 0] 26)) (by go_simp) ?_
        refine hK _ _ ⟨s3, ?_⟩
        simp only [Act.put, List.setIfInBounds_toArray, List.set_cons_zero, List.set_cons_succ]
        obtain ⟨gX, hgX⟩ : ∃ gX, gX = v2.heap.size := ⟨_, rfl⟩
        rw [← hgX] at hX lX ⊢
        rw [← hgX] at nA2
        rw [← hgX] at nXB
        generalize v2.alloc (.cells #[.int .i64 0, .int .i64 0, .slice none 0 0, .slice none 0 0] 26) = v3 at *
        clear hgX
        have x0 : v3.cell? ⟨gX, 0, none⟩ = some (.int .i64 0) := row_cell hX
        have x1 : v3.cell? ⟨gX, 1, none⟩ = some (.int .i64 0) := row_cell hX
        have x2 : v3.cell? ⟨gX, 2, none⟩ = some (.slice none 0 0) := row_cell hX
        have x3 : v3.cell? ⟨gX, 3, none⟩ = some (.slice none 0 0) := row_cell hX
        have y0 : v3.frozen? ⟨gX, 0, none⟩ = false := row_free hX
        have y1 : v3.frozen? ⟨gX, 1, none⟩ = false := row_free hX
        have y2 : v3.frozen? ⟨gX, 2, none⟩ = false := row_free hX
        have y3 : v3.frozen? ⟨gX, 3, none⟩ = false := row_free hX
        have z5 : Below w1.heap.size w1 ((((v3.setCell ⟨gX, 0, none⟩ (.int .i64 p)).setCell ⟨gX, 1, none⟩ (.int .i64 (M : Int))).setCell ⟨gX, 2, none⟩ (.slice Ar n cr)).setCell ⟨gX, 3, none⟩ (.slice (some ⟨gB, 0, none⟩) m m)) := bl_set (bl_set (bl_set (bl_set s3 lX) lX) lX) lX
        refine wpAnyH_one (i := 23) (by kernel_rfl) ?_
        refine wpOp_step (o := { dst := none, op := Op.store 26 (Operand.tmp 5) (Operand.tmp 28), type := 0, pos := "l10_bloom.go:71", after := #[{ on := 22, ground := Ground.data }, { on := 21, ground := Ground.data }, { on := 12, ground := Ground.chain }, { on := 0, ground := Ground.phase }, { on := 1, ground := Ground.phase }, { on := 2, ground := Ground.phase }, { on := 3, ground := Ground.phase }, { on := 4, ground := Ground.phase }, { on := 5, ground := Ground.phase }, { on := 6, ground := Ground.phase }, { on := 7, ground := Ground.phase }, { on := 8, ground := Ground.phase }, { on := 9, ground := Ground.phase }, { on := 10, ground := Ground.phase }, { on := 11, ground := Ground.phase }, { on := 12, ground := Ground.phase }, { on := 13, ground := Ground.phase }, { on := 14, ground := Ground.phase }, { on := 15, ground := Ground.phase }, { on := 16, ground := Ground.phase }, { on := 17, ground := Ground.phase }, { on := 18, ground := Ground.phase }, { on := 19, ground := Ground.phase }, { on := 20, ground := Ground.phase }, { on := 21, ground := Ground.phase }, { on := 22, ground := Ground.phase }], guard := none }) rfl fun K' hK => step_skipW (by rfl) (((((v3.setCell ⟨gX, 0, none⟩ (.int .i64 p)).setCell ⟨gX, 1, none⟩ (.int .i64 (M : Int))).setCell ⟨gX, 2, none⟩ (.slice Ar n cr)).setCell ⟨gX, 3, none⟩ (.slice (some ⟨gB, 0, none⟩) m m))) (by go_simp) ?_
        refine hK _ _ ⟨z5, ?_⟩
        try simp only [Act.put]
        refine wpAnyH_done (by kernel_rfl) ?_ _
        refine main Ar cr gB gX _ ?_ ?_ ?_ nXB lX lB nA z5
        · simpa using row_set (i := 3) (v := .slice (some ⟨gB, 0, none⟩) m m) (row_set (i := 2) (v := .slice Ar n cr) (row_set (i := 1) (v := .int .i64 (M : Int)) (row_set (i := 0) (v := .int .i64 p) hX)))
        · exact row_set_other (row_set_other (row_set_other (row_set_other hB nXB) nXB) nXB) nXB
        · refine ((((oA.loneN (lone_setCell gX 0 _ _) nA2).loneN (lone_setCell gX 1 _ _) nA2).loneN (lone_setCell gX 2 _ _) nA2).loneN (lone_setCell gX 3 _ _) nA2).wide lA0 ?_
          rw [size_set, size_set, size_set, size_set]
          exact hA0
      · have s2 : Below w1.heap.size w1 (v1.alloc (.cells #[.int .i64 0, .int .i64 0, .slice none 0 0, .slice none 0 0] 26)) := bl_al s1
        have bb : Below v1.heap.size v1 (v1.alloc (.cells #[.int .i64 0, .int .i64 0, .slice none 0 0, .slice none 0 0] 26)) := bl_al (Below.refl _ _)
        have hX := heap_alloc_new v1 (.cells #[.int .i64 0, .int .i64 0, .slice none 0 0, .slice none 0 0] 26)
        have lX : w1.heap.size ≤ v1.heap.size := s1.size
        have nA2 : ∀ g, (Value.slice Ar n cr).ownBlock = some g → v1.heap.size ≠ g := fun g h => by have := kA g h; omega
        have oA := oA.below bb
        have hA0 := Nat.le_trans hA0 bb.size
        clear bb
        refine wpOp_step (o := { dst := some 5, op := Op.alloc 26, type := 0, pos := "l10_bloom.go:71", after := #[], guard := none }) rfl fun K' hK => step_valueW (by rfl) (.pointer (some ⟨v1.heap.size, 0, none⟩)) (v1.alloc (.cells #[.int .i64 0, .int .i64 0, .slice none 0 0, .slice none 0 0] 26)) (by go_simp) ?_
        refine hK _ _ ⟨s2, ?_⟩
        simp only [Act.put, List.setIfInBounds_toArray, List.set_cons_zero, List.set_cons_succ]
        obtain ⟨gX, hgX⟩ : ∃ gX, gX = v1.heap.size := ⟨_, rfl⟩
        rw [← hgX] at hX lX ⊢
        rw [← hgX] at nA2
        generalize v1.alloc (.cells #[.int .i64 0, .int .i64 0, .slice none 0 0, .slice none 0 0] 26) = v2 at *
        clear hgX
        refine wpAnyH_one (i := 20) (by kernel_rfl) ?_
        have s3 : Below w1.heap.size w1 (v2.alloc (bolO (List.replicate m false) [])) := bl_al s2
        have bb : Below v2.heap.size v2 (v2.alloc (bolO (List.replicate m false) [])) := bl_al (Below.refl _ _)
        have hB := heap_alloc_new v2 (bolO (List.replicate m false) [])
        have lB : w1.heap.size ≤ v2.heap.size := s2.size
        have nA : ∀ g, (Value.slice Ar n cr).ownBlock = some g → g ≠ v2.heap.size := fun g h => by have := kA g h; omega
        have oA := oA.below bb
        have hA0 := Nat.le_trans hA0 bb.size
        have jX := (Array.getElem?_eq_some_iff.1 hX).1
        have nXB : gX ≠ v2.heap.size := by omega
        have hX := (bb.block _ jX).trans hX
        clear jX
        clear bb
        refine wpOp_step (o := { dst := some 27, op := Op.makeSlice 24 (Operand.tmp 26) (Operand.tmp 26), type := 24, pos := "l10_bloom.go:71", after := #[{ on := 19, ground := Ground.data }, { on := 19, ground := Ground.data }], guard := none }) rfl fun K' hK => step_valueW (by rfl) (.slice (some ⟨v2.heap.size, 0, none⟩) m m) (v2.alloc (bolO (List.replicate m false) [])) (by go_simp) ?_
        refine hK _ _ ⟨s3, ?_⟩
        simp only [Act.put, List.setIfInBounds_toArray, List.set_cons_zero, List.set_cons_succ]
        obtain ⟨gB, hgB⟩ : ∃ gB, gB = v2.heap.size := ⟨_, rfl⟩
        rw [← hgB] at hB lB ⊢
        rw [← hgB] at nA
        rw [← hgB] at nXB
        generalize v2.alloc (bolO (List.replicate m false) []) = v3 at *
        clear hgB
        refine wpAnyH_take (i := 21) (oi := { dst := some 28, op := Op.build 26 #[(0, Operand.tmp 10), (1, Operand.tmp 14), (2, Operand.tmp 19), (3, Operand.tmp 27)], type := 26, pos := "l10_bloom.go:71", after := #[{ on := 3, ground := Ground.data }, { on := 7, ground := Ground.data }, { on := 12, ground := Ground.data }, { on := 20, ground := Ground.data }], guard := none }) (v := ?_) rfl (by kernel_rfl) (by kernel_rfl) (by kernel_rfl) (fun _ _ _ h => h) (Or.inl ⟨by rfl, ?_⟩) s3 ?_
        rotate_left
        · intro W hSw
          go_simp
          try with_reducible rfl
        simp only [Act.put, List.setIfInBounds_toArray, List.set_cons_zero, List.set_cons_succ]
        have x0 : v3.cell? ⟨gX, 0, none⟩ = some (.int .i64 0) := row_cell hX
        have x1 : v3.cell? ⟨gX, 1, none⟩ = some (.int .i64 0) := row_cell hX
        have x2 : v3.cell? ⟨gX, 2, none⟩ = some (.slice none 0 0) := row_cell hX
        have x3 : v3.cell? ⟨gX, 3, none⟩ = some (.slice none 0 0) := row_cell hX
        have y0 : v3.frozen? ⟨gX, 0, none⟩ = false := row_free hX
        have y1 : v3.frozen? ⟨gX, 1, none⟩ = false := row_free hX
        have y2 : v3.frozen? ⟨gX, 2, none⟩ = false := row_free hX
        have y3 : v3.frozen? ⟨gX, 3, none⟩ = false := row_free hX
        have z5 : Below w1.heap.size w1 ((((v3.setCell ⟨gX, 0, none⟩ (.int .i64 p)).setCell ⟨gX, 1, none⟩ (.int .i64 (M : Int))).setCell ⟨gX, 2, none⟩ (.slice Ar n cr)).setCell ⟨gX, 3, none⟩ (.slice (some ⟨gB, 0, none⟩) m m)) := bl_set (bl_set (bl_set (bl_set s3 lX) lX) lX) lX
        refine wpAnyH_one (i := 23) (by kernel_rfl) ?_
        refine wpOp_step (o := { dst := none, op := Op.store 26 (Operand.tmp 5) (Operand.tmp 28), type := 0, pos := "l10_bloom.go:71", after := #[{ on := 22, ground := Ground.data }, { on := 21, ground := Ground.data }, { on := 12, ground := Ground.chain }, { on := 0, ground := Ground.phase }, { on := 1, ground := Ground.phase }, { on := 2, ground := Ground.phase }, { on := 3, ground := Ground.phase }, { on := 4, ground := Ground.phase }, { on := 5, ground := Ground.phase }, { on := 6, ground := Ground.phase }, { on := 7, ground := Ground.phase }, { on := 8, ground := Ground.phase }, { on := 9, ground := Ground.phase }, { on := 10, ground := Ground.phase }, { on := 11, ground := Ground.phase }, { on := 12, ground := Ground.phase }, { on := 13, ground := Ground.phase }, { on := 14, ground := Ground.phase }, { on := 15, ground := Ground.phase }, { on := 16, ground := Ground.phase }, { on := 17, ground := Ground.phase }, { on := 18, ground := Ground.phase }, { on := 19, ground := Ground.phase }, { on := 20, ground := Ground.phase }, { on := 21, ground := Ground.phase }, { on := 22, ground := Ground.phase }], guard := none }) rfl fun K' hK => step_skipW (by rfl) (((((v3.setCell ⟨gX, 0, none⟩ (.int .i64 p)).setCell ⟨gX, 1, none⟩ (.int .i64 (M : Int))).setCell ⟨gX, 2, none⟩ (.slice Ar n cr)).setCell ⟨gX, 3, none⟩ (.slice (some ⟨gB, 0, none⟩) m m))) (by go_simp) ?_
        refine hK _ _ ⟨z5, ?_⟩
        try simp only [Act.put]
        refine wpAnyH_done (by kernel_rfl) ?_ _
        refine main Ar cr gB gX _ ?_ ?_ ?_ nXB lX lB nA z5
        · simpa using row_set (i := 3) (v := .slice (some ⟨gB, 0, none⟩) m m) (row_set (i := 2) (v := .slice Ar n cr) (row_set (i := 1) (v := .int .i64 (M : Int)) (row_set (i := 0) (v := .int .i64 p) hX)))
        · exact row_set_other (row_set_other (row_set_other (row_set_other hB nXB) nXB) nXB) nXB
        · refine ((((oA.loneN (lone_setCell gX 0 _ _) nA2).loneN (lone_setCell gX 1 _ _) nA2).loneN (lone_setCell gX 2 _ _) nA2).loneN (lone_setCell gX 3 _ _) nA2).wide lA0 ?_
          rw [size_set, size_set, size_set, size_set]
          exact hA0
    · have s1 : Below w1.heap.size w1 (v0.alloc (bolO (List.replicate m false) [])) := bl_al s0
      have bb : Below v0.heap.size v0 (v0.alloc (bolO (List.replicate m false) [])) := bl_al (Below.refl _ _)
      have hB := heap_alloc_new v0 (bolO (List.replicate m false) [])
      have lB : w1.heap.size ≤ v0.heap.size := s0.size
      clear bb
      refine wpOp_step (o := { dst := some 27, op := Op.makeSlice 24 (Operand.tmp 26) (Operand.tmp 26), type := 24, pos := "l10_bloom.go:71", after := #[{ on := 19, ground := Ground.data }, { on := 19, ground := Ground.data }], guard := none }) rfl fun K' hK => step_valueW (by rfl) (.slice (some ⟨v0.heap.size, 0, none⟩) m m) (v0.alloc (bolO (List.replicate m false) [])) (by go_simp) ?_
      refine hK _ _ ⟨s1, ?_⟩
      simp only [Act.put, List.setIfInBounds_toArray, List.set_cons_zero, List.set_cons_succ]
      obtain ⟨gB, hgB⟩ : ∃ gB, gB = v0.heap.size := ⟨_, rfl⟩
      rw [← hgB] at hB lB ⊢
      generalize v0.alloc (bolO (List.replicate m false) []) = v1 at *
      clear hgB
      refine wpAnyH_two (i := 12) (j := 22) (by kernel_rfl) ?_ ?_
      · refine wpOp_step (o := { dst := some 19, op := Op.call { callee := Callee.value (Operand.func 78), args := #[Operand.tmp 18], argTypes := #[23] }, type := 23, pos := "l10_bloom.go:71", after := #[{ on := 11, ground := Ground.data }], guard := none }) rfl fun K' hK => step_enterW (by rfl) 78 #[.slice A n ca] (by go_simp) ((unhide CLO v1 ((unhide S1).below s1)).mono ?_)
        rintro e v2 ⟨rA, rfl, oA, b⟩
        have s2 := bl_st b s1
        have hA0 : v2.heap.size ≤ v2.heap.size := Nat.le_refl _
        have lA0 : w1.heap.size ≤ v1.heap.size := s1.size
        have kA := oA.lies
        obtain ⟨Ar, cr, rfl⟩ := oA.salts.slice
        rw [unhide HN] at oA kA ⊢
        have jB := (Array.getElem?_eq_some_iff.1 hB).1
        have nA : ∀ g, (Value.slice Ar n cr).ownBlock = some g → g ≠ gB := fun g h => by have := kA g h; omega
        have hB := (b.block _ jB).trans hB
        clear jB
        clear b
        refine ⟨_, rfl, hK _ _ ⟨s2, ?_⟩⟩
        simp only [Act.put, List.setIfInBounds_toArray, List.set_cons_zero, List.set_cons_succ]
        refine wpAnyH_take (i := 21) (oi := { dst := some 28, op := Op.build 26 #[(0, Operand.tmp 10), (1, Operand.tmp 14), (2, Operand.tmp 19), (3, Operand.tmp 27)], type := 26, pos := "l10_bloom.go:71", after := #[{ on := 3, ground := Ground.data }, { on := 7, ground := Ground.data }, { on := 12, ground := Ground.data }, { on := 20, ground := Ground.data }], guard := none }) (v := ?_) rfl (by kernel_rfl) (by kernel_rfl) (by kernel_rfl) (fun _ _ _ h => h) (Or.inl ⟨by rfl, ?_⟩) s2 ?_
        rotate_left
        · intro W hSw
          go_simp
          try with_reducible rfl
        simp only [Act.put, List.setIfInBounds_toArray, List.set_cons_zero, List.set_cons_succ]
        refine wpAnyH_one (i := 22) (by kernel_rfl) ?_
        have s3 : Below w1.heap.size w1 (v2.alloc (.cells #[.int .i64 0, .int .i64 0, .slice none 0 0, .slice none 0 0] 26)) := bl_al s2
        have bb : Below v2.heap.size v2 (v2.alloc (.cells #[.int .i64 0, .int .i64 0, .slice none 0 0, .slice none 0 0] 26)) := bl_al (Below.refl _ _)
        have hX := heap_alloc_new v2 (.cells #[.int .i64 0, .int .i64 0, .slice none 0 0, .slice none 0 0] 26)
        have lX : w1.heap.size ≤ v2.heap.size := s2.size
        have nA2 : ∀ g, (Value.slice Ar n cr).ownBlock = some g → v2.heap.size ≠ g := fun g h => by have := kA g h; omega
        have oA := oA.below bb
        have hA0 := Nat.le_trans hA0 bb.size
        have jB := (Array.getElem?_eq_some_iff.1 hB).1
        have nXB : v2.heap.size ≠ gB := by omega
        have hB := (bb.block _ jB).trans hB
        clear jB
        clear bb
        refine wpOp_step (o := { dst := some 5, op := Op.alloc 26, type := 0, pos := "l10_bloom.go:71", after := #[], guard := none }) rfl fun K' hK => step_valueW (by rfl) (.pointer (some ⟨v2.heap.size, 0, none⟩)) (v2.alloc (.cells #[.int .i64 0, .int .i64 0, .slice none 0 0, .slice none 0 0] 26)) (by go_simp) ?_
        refine hK _ _ ⟨s3, ?_⟩
        simp only [Act.put, List.setIfInBounds_toArray, List.set_cons_zero, List.set_cons_succ]
        obtain ⟨gX, hgX⟩ : ∃ gX, gX = v2.heap.size := ⟨_, rfl⟩
        rw [← hgX] at hX lX ⊢
        rw [← hgX] at nA2
        rw [← hgX] at nXB
        generalize v2.alloc (.cells #[.int .i64 0, .int .i64 0, .slice none 0 0, .slice none 0 0] 26) = v3 at *
        clear hgX
        have x0 : v3.cell? ⟨gX, 0, none⟩ = some (.int .i64 0) := row_cell hX
        have x1 : v3.cell? ⟨gX, 1, none⟩ = some (.int .i64 0) := row_cell hX
        have x2 : v3.cell? ⟨gX, 2, none⟩ = some (.slice none 0 0) := row_cell hX
        have x3 : v3.cell? ⟨gX, 3, none⟩ = some (.slice none 0 0) := row_cell hX
        have y0 : v3.frozen? ⟨gX, 0, none⟩ = false := row_free hX
        have y1 : v3.frozen? ⟨gX, 1, none⟩ = false := row_free hX
        have y2 : v3.frozen? ⟨gX, 2, none⟩ = false := row_free hX
        have y3 : v3.frozen? ⟨gX, 3, none⟩ = false := row_free hX
        have z5 : Below w1.heap.size w1 ((((v3.setCell ⟨gX, 0, none⟩ (.int .i64 p)).setCell ⟨gX, 1, none⟩ (.int .i64 (M : Int))).setCell ⟨gX, 2, none⟩ (.slice Ar n cr)).setCell ⟨gX, 3, none⟩ (.slice (some ⟨gB, 0, none⟩) m m)) := bl_set (bl_set (bl_set (bl_set s3 lX) lX) lX) lX
        refine wpAnyH_one (i := 23) (by kernel_rfl) ?_
        refine wpOp_step (o := { dst := none, op := Op.store 26 (Operand.tmp 5) (Operand.tmp 28), type := 0, pos := "l10_bloom.go:71", after := #[{ on := 22, ground := Ground.data }, { on := 21, ground := Ground.data }, { on := 12, ground := Ground.chain }, { on := 0, ground := Ground.phase }, { on := 1, ground := Ground.phase }, { on := 2, ground := Ground.phase }, { on := 3, ground := Ground.phase }, { on := 4, ground := Ground.phase }, { on := 5, ground := Ground.phase }, { on := 6, ground := Ground.phase }, { on := 7, ground := Ground.phase }, { on := 8, ground := Ground.phase }, { on := 9, ground := Ground.phase }, { on := 10, ground := Ground.phase }, { on := 11, ground := Ground.phase }, { on := 12, ground := Ground.phase }, { on := 13, ground := Ground.phase }, { on := 14, ground := Ground.phase }, { on := 15, ground := Ground.phase }, { on := 16, ground := Ground.phase }, { on := 17, ground := Ground.phase }, { on := 18, ground := Ground.phase }, { on := 19, ground := Ground.phase }, { on := 20, ground := Ground.phase }, { on := 21, ground := Ground.phase }, { on := 22, ground := Ground.phase }], guard := none }) rfl fun K' hK => step_skipW (by rfl) (((((v3.setCell ⟨gX, 0, none⟩ (.int .i64 p)).setCell ⟨gX, 1, none⟩ (.int .i64 (M : Int))).setCell ⟨gX, 2, none⟩ (.slice Ar n cr)).setCell ⟨gX, 3, none⟩ (.slice (some ⟨gB, 0, none⟩) m m))) (by go_simp) ?_
        refine hK _ _ ⟨z5, ?_⟩
        try simp only [Act.put]
        refine wpAnyH_done (by kernel_rfl) ?_ _
        refine main Ar cr gB gX _ ?_ ?_ ?_ nXB lX lB nA z5
        · simpa using row_set (i := 3) (v := .slice (some ⟨gB, 0, none⟩) m m) (row_set (i := 2) (v := .slice Ar n cr) (row_set (i := 1) (v := .int .i64 (M : Int)) (row_set (i := 0) (v := .int .i64 p) hX)))
        · exact row_set_other (row_set_other (row_set_other (row_set_other hB nXB) nXB) nXB) nXB
        · refine ((((oA.loneN (lone_setCell gX 0 _ _) nA2).loneN (lone_setCell gX 1 _ _) nA2).loneN (lone_setCell gX 2 _ _) nA2).loneN (lone_setCell gX 3 _ _) nA2).wide lA0 ?_
          rw [size_set, size_set, size_set, size_set]
          exact hA0
      · have s2 : Below w1.heap.size w1 (v1.alloc (.cells #[.int .i64 0, .int .i64 0, .slice none 0 0, .slice none 0 0] 26)) := bl_al s1
        have bb : Below v1.heap.size v1 (v1.alloc (.cells #[.int .i64 0, .int .i64 0, .slice none 0 0, .slice none 0 0] 26)) := bl_al (Below.refl _ _)
        have hX := heap_alloc_new v1 (.cells #[.int .i64 0, .int .i64 0, .slice none 0 0, .slice none 0 0] 26)
        have lX : w1.heap.size ≤ v1.heap.size := s1.size
        have jB := (Array.getElem?_eq_some_iff.1 hB).1
        have nXB : v1.heap.size ≠ gB := by omega
        have hB := (bb.block _ jB).trans hB
        clear jB
        clear bb
        refine wpOp_step (o := { dst := some 5, op := Op.alloc 26, type := 0, pos := "l10_bloom.go:71", after := #[], guard := none }) rfl fun K' hK => step_valueW (by rfl) (.pointer (some ⟨v1.heap.size, 0, none⟩)) (v1.alloc (.cells #[.int .i64 0, .int .i64 0, .slice none 0 0, .slice none 0 0] 26)) (by go_simp) ?_
        refine hK _ _ ⟨s2, ?_⟩
        simp only [Act.put, List.setIfInBounds_toArray, List.set_cons_zero, List.set_cons_succ]
        obtain ⟨gX, hgX⟩ : ∃ gX, gX = v1.heap.size := ⟨_, rfl⟩
        rw [← hgX] at hX lX ⊢
        rw [← hgX] at nXB
        generalize v1.alloc (.cells #[.int .i64 0, .int .i64 0, .slice none 0 0, .slice none 0 0] 26) = v2 at *
        clear hgX
        refine wpAnyH_one (i := 12) (by kernel_rfl) ?_
        refine wpOp_step (o := { dst := some 19, op := Op.call { callee := Callee.value (Operand.func 78), args := #[Operand.tmp 18], argTypes := #[23] }, type := 23, pos := "l10_bloom.go:71", after := #[{ on := 11, ground := Ground.data }], guard := none }) rfl fun K' hK => step_enterW (by rfl) 78 #[.slice A n ca] (by go_simp) ((unhide CLO v2 ((unhide S1).below s2)).mono ?_)
        rintro e v3 ⟨rA, rfl, oA, b⟩
        have s3 := bl_st b s2
        have hA0 : v3.heap.size ≤ v3.heap.size := Nat.le_refl _
        have lA0 : w1.heap.size ≤ v2.heap.size := s2.size
        have kA := oA.lies
        obtain ⟨Ar, cr, rfl⟩ := oA.salts.slice
        rw [unhide HN] at oA kA ⊢
        have jB := (Array.getElem?_eq_some_iff.1 hB).1
        have nA : ∀ g, (Value.slice Ar n cr).ownBlock = some g → g ≠ gB := fun g h => by have := kA g h; omega
        have hB := (b.block _ jB).trans hB
        clear jB
        have jX := (Array.getElem?_eq_some_iff.1 hX).1
        have nA2 : ∀ g, (Value.slice Ar n cr).ownBlock = some g → gX ≠ g := fun g h => by have := kA g h; omega
        have hX := (b.block _ jX).trans hX
        clear jX
        clear b
        refine ⟨_, rfl, hK _ _ ⟨s3, ?_⟩⟩
        simp only [Act.put, List.setIfInBounds_toArray, List.set_cons_zero, List.set_cons_succ]
        refine wpAnyH_take (i := 21) (oi := { dst := some 28, op := Op.build 26 #[(0, Operand.tmp 10), (1, Operand.tmp 14), (2, Operand.tmp 19), (3, Operand.tmp 27)], type := 26, pos := "l10_bloom.go:71", after := #[{ on := 3, ground := Ground.data }, { on := 7, ground := Ground.data }, { on := 12, ground := Ground.data }, { on := 20, ground := Ground.data }], guard := none }) (v := ?_) rfl (by kernel_rfl) (by kernel_rfl) (by kernel_rfl) (fun _ _ _ h => h) (Or.inl ⟨by rfl, ?_⟩) s3 ?_
        rotate_left
        · intro W hSw
          go_simp
          try with_reducible rfl
        simp only [Act.put, List.setIfInBounds_toArray, List.set_cons_zero, List.set_cons_succ]
        have x0 : v3.cell? ⟨gX, 0, none⟩ = some (.int .i64 0) := row_cell hX
        have x1 : v3.cell? ⟨gX, 1, none⟩ = some (.int .i64 0) := row_cell hX
        have x2 : v3.cell? ⟨gX, 2, none⟩ = some (.slice none 0 0) := row_cell hX
        have x3 : v3.cell? ⟨gX, 3, none⟩ = some (.slice none 0 0) := row_cell hX
        have y0 : v3.frozen? ⟨gX, 0, none⟩ = false := row_free hX
        have y1 : v3.frozen? ⟨gX, 1, none⟩ = false := row_free hX
        have y2 : v3.frozen? ⟨gX, 2, none⟩ = false := row_free hX
        have y3 : v3.frozen? ⟨gX, 3, none⟩ = false := row_free hX
        have z5 : Below w1.heap.size w1 ((((v3.setCell ⟨gX, 0, none⟩ (.int .i64 p)).setCell ⟨gX, 1, none⟩ (.int .i64 (M : Int))).setCell ⟨gX, 2, none⟩ (.slice Ar n cr)).setCell ⟨gX, 3, none⟩ (.slice (some ⟨gB, 0, none⟩) m m)) := bl_set (bl_set (bl_set (bl_set s3 lX) lX) lX) lX
        refine wpAnyH_one (i := 23) (by kernel_rfl) ?_
        refine wpOp_step (o := { dst := none, op := Op.store 26 (Operand.tmp 5) (Operand.tmp 28), type := 0, pos := "l10_bloom.go:71", after := #[{ on := 22, ground := Ground.data }, { on := 21, ground := Ground.data }, { on := 12, ground := Ground.chain }, { on := 0, ground := Ground.phase }, { on := 1, ground := Ground.phase }, { on := 2, ground := Ground.phase }, { on := 3, ground := Ground.phase }, { on := 4, ground := Ground.phase }, { on := 5, ground := Ground.phase }, { on := 6, ground := Ground.phase }, { on := 7, ground := Ground.phase }, { on := 8, ground := Ground.phase }, { on := 9, ground := Ground.phase }, { on := 10, ground := Ground.phase }, { on := 11, ground := Ground.phase }, { on := 12, ground := Ground.phase }, { on := 13, ground := Ground.phase }, { on := 14, ground := Ground.phase }, { on := 15, ground := Ground.phase }, { on := 16, ground := Ground.phase }, { on := 17, ground := Ground.phase }, { on := 18, ground := Ground.phase }, { on := 19, ground := Ground.phase }, { on := 20, ground := Ground.phase }, { on := 21, ground := Ground.phase }, { on := 22, ground := Ground.phase }], guard := none }) rfl fun K' hK => step_skipW (by rfl) (((((v3.setCell ⟨gX, 0, none⟩ (.int .i64 p)).setCell ⟨gX, 1, none⟩ (.int .i64 (M : Int))).setCell ⟨gX, 2, none⟩ (.slice Ar n cr)).setCell ⟨gX, 3, none⟩ (.slice (some ⟨gB, 0, none⟩) m m))) (by go_simp) ?_
        refine hK _ _ ⟨z5, ?_⟩
        try simp only [Act.put]
        refine wpAnyH_done (by kernel_rfl) ?_ _
        refine main Ar cr gB gX _ ?_ ?_ ?_ nXB lX lB nA z5
        · simpa using row_set (i := 3) (v := .slice (some ⟨gB, 0, none⟩) m m) (row_set (i := 2) (v := .slice Ar n cr) (row_set (i := 1) (v := .int .i64 (M : Int)) (row_set (i := 0) (v := .int .i64 p) hX)))
        · exact row_set_other (row_set_other (row_set_other (row_set_other hB nXB) nXB) nXB) nXB
        · refine ((((oA.loneN (lone_setCell gX 0 _ _) nA2).loneN (lone_setCell gX 1 _ _) nA2).loneN (lone_setCell gX 2 _ _) nA2).loneN (lone_setCell gX 3 _ _) nA2).wide lA0 ?_
          rw [size_set, size_set, size_set, size_set]
          exact hA0
    · have s1 : Below w1.heap.size w1 (v0.alloc (.cells #[.int .i64 0, .int .i64 0, .slice none 0 0, .slice none 0 0] 26)) := bl_al s0
      have bb : Below v0.heap.size v0 (v0.alloc (.cells #[.int .i64 0, .int .i64 0, .slice none 0 0, .slice none 0 0] 26)) := bl_al (Below.refl _ _)
      have hX := heap_alloc_new v0 (.cells #[.int .i64 0, .int .i64 0, .slice none 0 0, .slice none 0 0] 26)
      have lX : w1.heap.size ≤ v0.heap.size := s0.size
      clear bb
      refine wpOp_step (o := { dst := some 5, op := Op.alloc 26, type := 0, pos := "l10_bloom.go:71", after := #[], guard := none }) rfl fun K' hK => step_valueW (by rfl) (.pointer (some ⟨v0.heap.size, 0, none⟩)) (v0.alloc (.cells #[.int .i64 0, .int .i64 0, .slice none 0 0, .slice none 0 0] 26)) (by go_simp) ?_
      refine hK _ _ ⟨s1, ?_⟩
      simp only [Act.put, List.setIfInBounds_toArray, List.set_cons_zero, List.set_cons_succ]
      obtain ⟨gX, hgX⟩ : ∃ gX, gX = v0.heap.size := ⟨_, rfl⟩
      rw [← hgX] at hX lX ⊢
      generalize v0.alloc (.cells #[.int .i64 0, .int .i64 0, .slice none 0 0, .slice none 0 0] 26) = v1 at *
      clear hgX
      refine wpAnyH_two (i := 12) (j := 20) (by kernel_rfl) ?_ ?_
      · refine wpOp_step (o := { dst := some 19, op := Op.call { callee := Callee.value (Operand.func 78), args := #[Operand.tmp 18], argTypes := #[23] }, type := 23, pos := "l10_bloom.go:71", after := #[{ on := 11, ground := Ground.data }], guard := none }) rfl fun K' hK => step_enterW (by rfl) 78 #[.slice A n ca] (by go_simp) ((unhide CLO v1 ((unhide S1).below s1)).mono ?_)
        rintro e v2 ⟨rA, rfl, oA, b⟩
        have s2 := bl_st b s1
        have hA0 : v2.heap.size ≤ v2.heap.size := Nat.le_refl _
        have lA0 : w1.heap.size ≤ v1.heap.size := s1.size
        have kA := oA.lies
        obtain ⟨Ar, cr, rfl⟩ := oA.salts.slice
        rw [unhide HN] at oA kA ⊢
        have jX := (Array.getElem?_eq_some_iff.1 hX).1
        have nA2 : ∀ g, (Value.slice Ar n cr).ownBlock = some g → gX ≠ g := fun g h => by have := kA g h; omega
        have hX := (b.block _ jX).trans hX
        clear jX
        clear b
        refine ⟨_, rfl, hK _ _ ⟨s2, ?_⟩⟩
        simp only [Act.put, List.setIfInBounds_toArray, List.set_cons_zero, List.set_cons_succ]
        refine wpAnyH_one (i := 20) (by kernel_rfl) ?_
        have s3 : Below w1.heap.size w1 (v2.alloc (bolO (List.replicate m false) [])) := bl_al s2
        have bb : Below v2.heap.size v2 (v2.alloc (bolO (List.replicate m false) [])) := bl_al (Below.refl _ _)
        have hB := heap_alloc_new v2 (bolO (List.replicate m false) [])
        have lB : w1.heap.size ≤ v2.heap.size := s2.size
        have nA : ∀ g, (Value.slice Ar n cr).ownBlock = some g → g ≠ v2.heap.size := fun g h => by have := kA g h; omega
        have oA := oA.below bb
        have hA0 := Nat.le_trans hA0 bb.size
        have jX := (Array.getElem?_eq_some_iff.1 hX).1
        have nXB : gX ≠ v2.heap.size := by omega
        have hX := (bb.block _ jX).trans hX
        clear jX
        clear bb
        refine wpOp_step (o := { dst := some 27, op := Op.makeSlice 24 (Operand.tmp 26) (Operand.tmp 26), type := 24, pos := "l10_bloom.go:71", after := #[{ on := 19, ground := Ground.data }, { on := 19, ground := Ground.data }], guard := none }) rfl fun K' hK => step_valueW (by rfl) (.slice (some ⟨v2.heap.size, 0, none⟩) m m) (v2.alloc (bolO (List.replicate m false) [])) (by go_simp) ?_
        refine hK _ _ ⟨s3, ?_⟩
        simp only [Act.put, List.setIfInBounds_toArray, List.set_cons_zero, List.set_cons_succ]
        obtain ⟨gB, hgB⟩ : ∃ gB, gB = v2.heap.size := ⟨_, rfl⟩
        rw [← hgB] at hB lB ⊢
        rw [← hgB] at nA
        rw [← hgB] at nXB
        generalize v2.alloc (bolO (List.replicate m false) []) = v3 at *
        clear hgB
        refine wpAnyH_take (i := 21) (oi := { dst := some 28, op := Op.build 26 #[(0, Operand.tmp 10), (1, Operand.tmp 14), (2, Operand.tmp 19), (3, Operand.tmp 27)], type := 26, pos := "l10_bloom.go:71", after := #[{ on := 3, ground := Ground.data }, { on := 7, ground := Ground.data }, { on := 12, ground := Ground.data }, { on := 20, ground := Ground.data }], guard := none }) (v := ?_) rfl (by kernel_rfl) (by kernel_rfl) (by kernel_rfl) (fun _ _ _ h => h) (Or.inl ⟨by rfl, ?_⟩) s3 ?_
        rotate_left
        · intro W hSw
          go_simp
          try with_reducible rfl
        simp only [Act.put, List.setIfInBounds_toArray, List.set_cons_zero, List.set_cons_succ]
        have x0 : v3.cell? ⟨gX, 0, none⟩ = some (.int .i64 0) := row_cell hX
        have x1 : v3.cell? ⟨gX, 1, none⟩ = some (.int .i64 0) := row_cell hX
        have x2 : v3.cell? ⟨gX, 2, none⟩ = some (.slice none 0 0) := row_cell hX
        have x3 : v3.cell? ⟨gX, 3, none⟩ = some (.slice none 0 0) := row_cell hX
        have y0 : v3.frozen? ⟨gX, 0, none⟩ = false := row_free hX
        have y1 : v3.frozen? ⟨gX, 1, none⟩ = false := row_free hX
        have y2 : v3.frozen? ⟨gX, 2, none⟩ = false := row_free hX
        have y3 : v3.frozen? ⟨gX, 3, none⟩ = false := row_free hX
        have z5 : Below w1.heap.size w1 ((((v3.setCell ⟨gX, 0, none⟩ (.int .i64 p)).setCell ⟨gX, 1, none⟩ (.int .i64 (M : Int))).setCell ⟨gX, 2, none⟩ (.slice Ar n cr)).setCell ⟨gX, 3, none⟩ (.slice (some ⟨gB, 0, none⟩) m m)) := bl_set (bl_set (bl_set (bl_set s3 lX) lX) lX) lX
        refine wpAnyH_one (i := 23) (by kernel_rfl) ?_
        refine wpOp_step (o := { dst := none, op := Op.store 26 (Operand.tmp 5) (Operand.tmp 28), type := 0, pos := "l10_bloom.go:71", after := #[{ on := 22, ground := Ground.data }, { on := 21, ground := Ground.data }, { on := 12, ground := Ground.chain }, { on := 0, ground := Ground.phase }, { on := 1, ground := Ground.phase }, { on := 2, ground := Ground.phase }, { on := 3, ground := Ground.phase }, { on := 4, ground := Ground.phase }, { on := 5, ground := Ground.phase }, { on := 6, ground := Ground.phase }, { on := 7, ground := Ground.phase }, { on := 8, ground := Ground.phase }, { on := 9, ground := Ground.phase }, { on := 10, ground := Ground.phase }, { on := 11, ground := Ground.phase }, { on := 12, ground := Ground.phase }, { on := 13, ground := Ground.phase }, { on := 14, ground := Ground.phase }, { on := 15, ground := Ground.phase }, { on := 16, ground := Ground.phase }, { on := 17, ground := Ground.phase }, { on := 18, ground := Ground.phase }, { on := 19, ground := Ground.phase }, { on := 20, ground := Ground.phase }, { on := 21, ground := Ground.phase }, { on := 22, ground := Ground.phase }], guard := none }) rfl fun K' hK => step_skipW (by rfl) (((((v3.setCell ⟨gX, 0, none⟩ (.int .i64 p)).setCell ⟨gX, 1, none⟩ (.int .i64 (M : Int))).setCell ⟨gX, 2, none⟩ (.slice Ar n cr)).setCell ⟨gX, 3, none⟩ (.slice (some ⟨gB, 0, none⟩) m m))) (by go_simp) ?_
        refine hK _ _ ⟨z5, ?_⟩
        try simp only [Act.put]
        refine wpAnyH_done (by kernel_rfl) ?_ _
        refine main Ar cr gB gX _ ?_ ?_ ?_ nXB lX lB nA z5
        · simpa using row_set (i := 3) (v := .slice (some ⟨gB, 0, none⟩) m m) (row_set (i := 2) (v := .slice Ar n cr) (row_set (i := 1) (v := .int .i64 (M : Int)) (row_set (i := 0) (v := .int .i64 p) hX)))
        · exact row_set_other (row_set_other (row_set_other (row_set_other hB nXB) nXB) nXB) nXB
        · refine ((((oA.loneN (lone_setCell gX 0 _ _) nA2).loneN (lone_setCell gX 1 _ _) nA2).loneN (lone_setCell gX 2 _ _) nA2).loneN (lone_setCell gX 3 _ _) nA2).wide lA0 ?_
          rw [size_set, size_set, size_set, size_set]
          exact hA0
      · have s2 : Below w1.heap.size w1 (v1.alloc (bolO (List.replicate m false) [])) := bl_al s1
        have bb : Below v1.heap.size v1 (v1.alloc (bolO (List.replicate m false) [])) := bl_al (Below.refl _ _)
        have hB := heap_alloc_new v1 (bolO (List.replicate m false) [])
        have lB : w1.heap.size ≤ v1.heap.size := s1.size
        have jX := (Array.getElem?_eq_some_iff.1 hX).1
        have nXB : gX ≠ v1.heap.size := by omega
        have hX := (bb.block _ jX).trans hX
        clear jX
        clear bb
        refine wpOp_step (o := { dst := some 27, op := Op.makeSlice 24 (Operand.tmp 26) (Operand.tmp 26), type := 24, pos := "l10_bloom.go:71", after := #[{ on := 19, ground := Ground.data }, { on := 19, ground := Ground.data }], guard := none }) rfl fun K' hK => step_valueW (by rfl) (.slice (some ⟨v1.heap.size, 0, none⟩) m m) (v1.alloc (bolO (List.replicate m false) [])) (by go_simp) ?_
        refine hK _ _ ⟨s2, ?_⟩
        simp only [Act.put, List.setIfInBounds_toArray, List.set_cons_zero, List.set_cons_succ]
        obtain ⟨gB, hgB⟩ : ∃ gB, gB = v1.heap.size := ⟨_, rfl⟩
        rw [← hgB] at hB lB ⊢
        rw [← hgB] at nXB
        generalize v1.alloc (bolO (List.replicate m false) []) = v2 at *
        clear hgB
        refine wpAnyH_one (i := 12) (by kernel_rfl) ?_
        refine wpOp_step (o := { dst := some 19, op := Op.call { callee := Callee.value (Operand.func 78), args := #[Operand.tmp 18], argTypes := #[23] }, type := 23, pos := "l10_bloom.go:71", after := #[{ on := 11, ground := Ground.data }], guard := none }) rfl fun K' hK => step_enterW (by rfl) 78 #[.slice A n ca] (by go_simp) ((unhide CLO v2 ((unhide S1).below s2)).mono ?_)
        rintro e v3 ⟨rA, rfl, oA, b⟩
        have s3 := bl_st b s2
        have hA0 : v3.heap.size ≤ v3.heap.size := Nat.le_refl _
        have lA0 : w1.heap.size ≤ v2.heap.size := s2.size
        have kA := oA.lies
        obtain ⟨Ar, cr, rfl⟩ := oA.salts.slice
        rw [unhide HN] at oA kA ⊢
        have jB := (Array.getElem?_eq_some_iff.1 hB).1
        have nA : ∀ g, (Value.slice Ar n cr).ownBlock = some g → g ≠ gB := fun g h => by have := kA g h; omega
        have hB := (b.block _ jB).trans hB
        clear jB
        have jX := (Array.getElem?_eq_some_iff.1 hX).1
        have nA2 : ∀ g, (Value.slice Ar n cr).ownBlock = some g → gX ≠ g := fun g h => by have := kA g h; omega
        have hX := (b.block _ jX).trans hX
        clear jX
        clear b
        refine ⟨_, rfl, hK _ _ ⟨s3, ?_⟩⟩
        simp only [Act.put, List.setIfInBounds_toArray, List.set_cons_zero, List.set_cons_succ]
        refine wpAnyH_take (i := 21) (oi := { dst := some 28, op := Op.build 26 #[(0, Operand.tmp 10), (1, Operand.tmp 14), (2, Operand.tmp 19), (3, Operand.tmp 27)], type := 26, pos := "l10_bloom.go:71", after := #[{ on := 3, ground := Ground.data }, { on := 7, ground := Ground.data }, { on := 12, ground := Ground.data }, { on := 20, ground := Ground.data }], guard := none }) (v := ?_) rfl (by kernel_rfl) (by kernel_rfl) (by kernel_rfl) (fun _ _ _ h => h) (Or.inl ⟨by rfl, ?_⟩) s3 ?_
        rotate_left
        · intro W hSw
          go_simp
          try with_reducible rfl
        simp only [Act.put, List.setIfInBounds_toArray, List.set_cons_zero, List.set_cons_succ]
        have x0 : v3.cell? ⟨gX, 0, none⟩ = some (.int .i64 0) := row_cell hX
        have x1 : v3.cell? ⟨gX, 1, none⟩ = some (.int .i64 0) := row_cell hX
        have x2 : v3.cell? ⟨gX, 2, none⟩ = some (.slice none 0 0) := row_cell hX
        have x3 : v3.cell? ⟨gX, 3, none⟩ = some (.slice none 0 0) := row_cell hX
        have y0 : v3.frozen? ⟨gX, 0, none⟩ = false := row_free hX
        have y1 : v3.frozen? ⟨gX, 1, none⟩ = false := row_free hX
        have y2 : v3.frozen? ⟨gX, 2, none⟩ = false := row_free hX
        have y3 : v3.frozen? ⟨gX, 3, none⟩ = false := row_free hX
        have z5 : Below w1.heap.size w1 ((((v3.setCell ⟨gX, 0, none⟩ (.int .i64 p)).setCell ⟨gX, 1, none⟩ (.int .i64 (M : Int))).setCell ⟨gX, 2, none⟩ (.slice Ar n cr)).setCell ⟨gX, 3, none⟩ (.slice (some ⟨gB, 0, none⟩) m m)) := bl_set (bl_set (bl_set (bl_set s3 lX) lX) lX) lX
        refine wpAnyH_one (i := 23) (by kernel_rfl) ?_
        refine wpOp_step (o := { dst := none, op := Op.store 26 (Operand.tmp 5) (Operand.tmp 28), type := 0, pos := "l10_bloom.go:71", after := #[{ on := 22, ground := Ground.data }, { on := 21, ground := Ground.data }, { on := 12, ground := Ground.chain }, { on := 0, ground := Ground.phase }, { on := 1, ground := Ground.phase }, { on := 2, ground := Ground.phase }, { on := 3, ground := Ground.phase }, { on := 4, ground := Ground.phase }, { on := 5, ground := Ground.phase }, { on := 6, ground := Ground.phase }, { on := 7, ground := Ground.phase }, { on := 8, ground := Ground.phase }, { on := 9, ground := Ground.phase }, { on := 10, ground := Ground.phase }, { on := 11, ground := Ground.phase }, { on := 12, ground := Ground.phase }, { on := 13, ground := Ground.phase }, { on := 14, ground := Ground.phase }, { on := 15, ground := Ground.phase }, { on := 16, ground := Ground.phase }, { on := 17, ground := Ground.phase }, { on := 18, ground := Ground.phase }, { on := 19, ground := Ground.phase }, { on := 20, ground := Ground.phase }, { on := 21, ground := Ground.phase }, { on := 22, ground := Ground.phase }], guard := none }) rfl fun K' hK => step_skipW (by rfl) (((((v3.setCell ⟨gX, 0, none⟩ (.int .i64 p)).setCell ⟨gX, 1, none⟩ (.int .i64 (M : Int))).setCell ⟨gX, 2, none⟩ (.slice Ar n cr)).setCell ⟨gX, 3, none⟩ (.slice (some ⟨gB, 0, none⟩) m m))) (by go_simp) ?_
        refine hK _ _ ⟨z5, ?_⟩
        try simp only [Act.put]
        refine wpAnyH_done (by kernel_rfl) ?_ _
        refine main Ar cr gB gX _ ?_ ?_ ?_ nXB lX lB nA z5
        · simpa using row_set (i := 3) (v := .slice (some ⟨gB, 0, none⟩) m m) (row_set (i := 2) (v := .slice Ar n cr) (row_set (i := 1) (v := .int .i64 (M : Int)) (row_set (i := 0) (v := .int .i64 p) hX)))
        · exact row_set_other (row_set_other (row_set_other (row_set_other hB nXB) nXB) nXB) nXB
        · refine ((((oA.loneN (lone_setCell gX 0 _ _) nA2).loneN (lone_setCell gX 1 _ _) nA2).loneN (lone_setCell gX 2 _ _) nA2).loneN (lone_setCell gX 3 _ _) nA2).wide lA0 ?_
          rw [size_set, size_set, size_set, size_set]
          exact hA0
  intro Ar cr gB gX W5 nX nB oA nXB lX lB nA z5
  have hgB : g ≠ gB := by have := unhide LG; have := unhide S0; omega
  have hqB : q ≠ gB := by have := (unhide CQ).lt; have := unhide S0; omega
  have C5 := hide ((unhide C1).below z5)
  have G5 := hide ((z5.block g (Nat.lt_trans (unhide LG) (unhide S0))).trans (unhide G1))
  have N5 := hide ((z5.block w.heap.size (unhide S0)).trans (unhide N1))
  have X5 := hide (bc_row nX)
  have NX := hide nX
  have O5 := hide oA
  have B5 := hide (bl_st z5 (unhide B1))
  have NB := hide nB
  have NA := hide nA
  have LB := hide lB
  have NXB := hide nXB
  have L5 := hide z5.size
  have HGB := hide hgB
  have HQB := hide hqB
  clear nX nB oA nXB lX lB nA z5 mk wk CLO S1 G1 N1 B1 hgB hqB
  obtain ⟨_, c0, c1, c2, c3⟩ := unhide X5
  go_wp2
  clear c0 c1 c2 c3
  go_loopw [32] (fun i wr => ∃ k : Nat, k ≤ m ∧ i = .int .i64 k ∧ wr.heap[gB]? = some (bolO (mixG (bitsOf M n f) (List.replicate m false) k) []) ∧ Lone gB W5 wr) (fun i _ => m - (intOf i).toNat)
  case atStart => exact ⟨0, by omega, rfl, by rw [mixG_zero]; exact unhide NB, Lone.refl _ _⟩
  case round =>
    obtain ⟨k, hk, rfl, ho, hlo⟩ := hrel
    have HBL : (bitsOf M n f).length = (List.replicate m false).length := by rw [bitsOf_len, unhide HM]; simp
    by_cases hlt : k < m
    · have q1 : (k : Int) < (m : Int) := by omega
      have q0 : (0 : Int) ≤ (k : Int) := by omega
      have hkn : k / M < n := Nat.div_lt_of_lt_mul (by rw [Nat.mul_comm, unhide HM]; exact hlt)
      have hmod : k % M < M := Nat.mod_lt _ (unhide HM1)
      have hul : k / M < us.length := by rw [(unhide HH).len]; exact hkn
      have hbit := (unhide HH).bit (k / M) (k % M) hkn hmod
      have ul : us.length = n := (unhide HH).len
      have hl : (mixG (bitsOf M n f) (List.replicate m false) k).length = m := by rw [mixG_len _ _ _ HBL]; simp
      have hgk : wr.heap[g]? = some (wrdO us rest) := (hlo.block g (Array.getElem?_eq_some_iff.1 (unhide G5)).1 (unhide HGB)).trans (unhide G5)
      have K1 := hide (has58 g (k / M) (us.getD (k / M) 0) (k % M) { wr with drawn := wr.drawn + 1 } (by have := unhide HM64; omega) ((unhide HH).lt _ hkn) (cell_wrdO hgk _ hul))
      rw [hbit] at K1
      have CQ5 := hide ((unhide C5).lone hlo (Ne.symm (unhide HQB)))
      have CX5 := hide ((unhide X5).lone hlo (Ne.symm (unhide NXB)))
      have p1 := cell_bolO ho k (by omega)
      have p2 := free_bolO ho k
      have p3 := set_bolO ho k ((bitsOf M n f).getD k false) (by omega)
      rw [mixG_succ false _ _ _ HBL (by simpa using hlt)] at p3
      rw [bitsOf_at (by rw [unhide HM]; exact hlt)] at p3
      have t1 : Int.tdiv (k : Int) (M : Int) = ((k / M : Nat) : Int) := by rw [Int.tdiv_eq_ediv_of_nonneg (by omega)]; simp
      have t2 : Int.tmod (k : Int) (M : Int) = ((k % M : Nat) : Int) := by rw [Int.tmod_eq_emod_of_nonneg (by omega)]; simp
      have neN : ¬ M = 0 := by have := unhide HM1; omega
      have i0 : (0 : Int) ≤ ((k / M : Nat) : Int) := Int.natCast_nonneg _
      have i1 : ((k / M : Nat) : Int) < (n : Int) := by exact_mod_cast hkn
      have wk : IntKind.i64.wrap ((k / M : Nat) : Int) = ((k / M : Nat) : Int) := by rw [IntKind.wrap_i64]; omega
      generalize f (k / M) (k % M) = fb at *
      have P1 := hide p1
      have P2 := hide p2
      have P3 := hide p3
      have L3 := hide (hlo.trans (lone_setCell gB k wr (.bool fb)))
      have HJ := hide hlt
      generalize (mixG (bitsOf M n f) (List.replicate m false) k).getD k false = old at *
      generalize k / M = i at *
      generalize k % M = j at *
      clear hmod hul hkn hbit hl hgk p1 p2 p3 ho hlo hlt hk HBL
      go_wp2
      refine wp_region_held (S := fun W' => BC q p (M : Int) (.slice A n ca) b W' ∧ BC gX p (M : Int) (.slice Ar n cr) (.slice (some ⟨gB, 0, none⟩) m m) W') (by kernel_rfl) ?_
      have hS0 : BC q p (M : Int) (.slice A n ca) b { wr with drawn := wr.drawn + 1 } ∧ BC gX p (M : Int) (.slice Ar n cr) (.slice (some ⟨gB, 0, none⟩) m m) { wr with drawn := wr.drawn + 1 } := ⟨(unhide CQ5).below (below_drewN (Below.refl _ _) 1), (unhide CX5).below (below_drewN (Below.refl _ _) 1)⟩
      refine wpAnyH_take (i := 0) (oi := { dst := some 35, op := Op.fieldAddr 26 (Operand.tmp 5) 3, type := 0, pos := "l10_bloom.go:73", after := #[], guard := none }) (v := ?_) rfl (by kernel_rfl) (by kernel_rfl) (by kernel_rfl) (fun _ _ _ h => h) (Or.inl ⟨by rfl, ?_⟩) hS0 ?_
      rotate_left
      · intro W hSw
        obtain ⟨_, c0, c1, c2, c3⟩ := hSw.1
        obtain ⟨_, d0, d1, d2, d3⟩ := hSw.2
        go_simp
        try with_reducible rfl
      simp only [Act.put, List.setIfInBounds_toArray, List.set_cons_zero, List.set_cons_succ]
      refine wpAnyH_take (i := 1) (oi := { dst := some 36, op := Op.load 24 (Operand.tmp 35), type := 24, pos := "l10_bloom.go:73", after := #[{ on := 0, ground := Ground.data }], guard := none }) (v := ?_) rfl (by kernel_rfl) (by kernel_rfl) (by kernel_rfl) (fun _ _ _ h => h) (Or.inl ⟨by rfl, ?_⟩) hS0 ?_
      rotate_left
      · intro W hSw
        obtain ⟨_, c0, c1, c2, c3⟩ := hSw.1
        obtain ⟨_, d0, d1, d2, d3⟩ := hSw.2
        go_simp
        try with_reducible rfl
      simp only [Act.put, List.setIfInBounds_toArray, List.set_cons_zero, List.set_cons_succ]
      refine wpAnyH_take (i := 2) (oi := { dst := some 37, op := Op.move (Operand.tmp 6), type := 3, pos := "l10_bloom.go:73", after := #[], guard := none }) (v := ?_) rfl (by kernel_rfl) (by kernel_rfl) (by kernel_rfl) (fun _ _ _ h => h) (Or.inl ⟨by rfl, ?_⟩) hS0 ?_
      rotate_left
      · intro W hSw
        obtain ⟨_, c0, c1, c2, c3⟩ := hSw.1
        obtain ⟨_, d0, d1, d2, d3⟩ := hSw.2
        go_simp
        try with_reducible rfl
      simp only [Act.put, List.setIfInBounds_toArray, List.set_cons_zero, List.set_cons_succ]
      refine wpAnyH_take (i := 3) (oi := { dst := some 38, op := Op.move (Operand.tmp 1), type := 70, pos := "l10_bloom.go:73", after := #[], guard := none }) (v := ?_) rfl (by kernel_rfl) (by kernel_rfl) (by kernel_rfl) (fun _ _ _ h => h) (Or.inl ⟨by rfl, ?_⟩) hS0 ?_
      rotate_left
      · intro W hSw
        obtain ⟨_, c0, c1, c2, c3⟩ := hSw.1
        obtain ⟨_, d0, d1, d2, d3⟩ := hSw.2
        go_simp
        try with_reducible rfl
      simp only [Act.put, List.setIfInBounds_toArray, List.set_cons_zero, List.set_cons_succ]
      refine wpAnyH_take (i := 4) (oi := { dst := some 39, op := Op.move (Operand.tmp 6), type := 3, pos := "l10_bloom.go:73", after := #[], guard := none }) (v := ?_) rfl (by kernel_rfl) (by kernel_rfl) (by kernel_rfl) (fun _ _ _ h => h) (Or.inl ⟨by rfl, ?_⟩) hS0 ?_
      rotate_left
      · intro W hSw
        obtain ⟨_, c0, c1, c2, c3⟩ := hSw.1
        obtain ⟨_, d0, d1, d2, d3⟩ := hSw.2
        go_simp
        try with_reducible rfl
      simp only [Act.put, List.setIfInBounds_toArray, List.set_cons_zero, List.set_cons_succ]
      refine wpAnyH_take (i := 5) (oi := { dst := some 40, op := Op.move (Operand.tmp 0), type := 94, pos := "l10_bloom.go:73", after := #[], guard := none }) (v := ?_) rfl (by kernel_rfl) (by kernel_rfl) (by kernel_rfl) (fun _ _ _ h => h) (Or.inl ⟨by rfl, ?_⟩) hS0 ?_
      rotate_left
      · intro W hSw
        obtain ⟨_, c0, c1, c2, c3⟩ := hSw.1
        obtain ⟨_, d0, d1, d2, d3⟩ := hSw.2
        go_simp
        try with_reducible rfl
      simp only [Act.put, List.setIfInBounds_toArray, List.set_cons_zero, List.set_cons_succ]
      refine wpAnyH_take (i := 6) (oi := { dst := some 41, op := Op.nilCheck (Operand.tmp 40), type := 0, pos := "l10_bloom.go:73", after := #[{ on := 5, ground := Ground.data }], guard := none }) (v := ?_) rfl (by kernel_rfl) (by kernel_rfl) (by kernel_rfl) (fun _ _ _ h => h) (Or.inl ⟨by rfl, ?_⟩) hS0 ?_
      rotate_left
      · intro W hSw
        obtain ⟨_, c0, c1, c2, c3⟩ := hSw.1
        obtain ⟨_, d0, d1, d2, d3⟩ := hSw.2
        go_simp
        try with_reducible rfl
      simp only [Act.put, List.setIfInBounds_toArray, List.set_cons_zero, List.set_cons_succ]
      refine wpAnyH_take (i := 7) (oi := { dst := some 42, op := Op.fieldAddr 26 (Operand.tmp 41) 1, type := 0, pos := "l10_bloom.go:73", after := #[{ on := 6, ground := Ground.data }], guard := none }) (v := ?_) rfl (by kernel_rfl) (by kernel_rfl) (by kernel_rfl) (fun _ _ _ h => h) (Or.inl ⟨by rfl, ?_⟩) hS0 ?_
      rotate_left
      · intro W hSw
        obtain ⟨_, c0, c1, c2, c3⟩ := hSw.1
        obtain ⟨_, d0, d1, d2, d3⟩ := hSw.2
        go_simp
        try with_reducible rfl
      simp only [Act.put, List.setIfInBounds_toArray, List.set_cons_zero, List.set_cons_succ]
      refine wpAnyH_take (i := 8) (oi := { dst := some 43, op := Op.load 3 (Operand.tmp 42), type := 3, pos := "l10_bloom.go:73", after := #[{ on := 7, ground := Ground.data }], guard := none }) (v := ?_) rfl (by kernel_rfl) (by kernel_rfl) (by kernel_rfl) (fun _ _ _ h => h) (Or.inl ⟨by rfl, ?_⟩) hS0 ?_
      rotate_left
      · intro W hSw
        obtain ⟨_, c0, c1, c2, c3⟩ := hSw.1
        obtain ⟨_, d0, d1, d2, d3⟩ := hSw.2
        go_simp
        try with_reducible rfl
      simp only [Act.put, List.setIfInBounds_toArray, List.set_cons_zero, List.set_cons_succ]
      refine wpAnyH_take (i := 9) (oi := { dst := some 44, op := Op.binOp BinOp.quo 3 (Operand.tmp 39) (Operand.tmp 43) 3, type := 3, pos := "l10_bloom.go:73", after := #[{ on := 4, ground := Ground.data }, { on := 8, ground := Ground.data }], guard := none }) (v := ?_) rfl (by kernel_rfl) (by kernel_rfl) (by kernel_rfl) (fun _ _ _ h => h) (Or.inl ⟨by rfl, ?_⟩) hS0 ?_
      rotate_left
      · intro W hSw
        obtain ⟨_, c0, c1, c2, c3⟩ := hSw.1
        obtain ⟨_, d0, d1, d2, d3⟩ := hSw.2
        go_simp
        try with_reducible rfl
      simp only [Act.put, List.setIfInBounds_toArray, List.set_cons_zero, List.set_cons_succ]
      refine wpAnyH_take (i := 10) (oi := { dst := some 45, op := Op.indexAddr 70 (Operand.tmp 38) (Operand.tmp 44), type := 0, pos := "l10_bloom.go:73", after := #[{ on := 3, ground := Ground.data }, { on := 9, ground := Ground.data }], guard := none }) (v := ?_) rfl (by kernel_rfl) (by kernel_rfl) (by kernel_rfl) (fun _ _ _ h => h) (Or.inl ⟨by rfl, ?_⟩) hS0 ?_
      rotate_left
      · intro W hSw
        obtain ⟨_, c0, c1, c2, c3⟩ := hSw.1
        obtain ⟨_, d0, d1, d2, d3⟩ := hSw.2
        go_simp
        try with_reducible rfl
      simp only [Act.put, List.setIfInBounds_toArray, List.set_cons_zero, List.set_cons_succ]
      refine wpAnyH_take (i := 11) (oi := { dst := some 46, op := Op.move (Operand.tmp 6), type := 3, pos := "l10_bloom.go:73", after := #[], guard := none }) (v := ?_) rfl (by kernel_rfl) (by kernel_rfl) (by kernel_rfl) (fun _ _ _ h => h) (Or.inl ⟨by rfl, ?_⟩) hS0 ?_
      rotate_left
      · intro W hSw
        obtain ⟨_, c0, c1, c2, c3⟩ := hSw.1
        obtain ⟨_, d0, d1, d2, d3⟩ := hSw.2
        go_simp
        try with_reducible rfl
      simp only [Act.put, List.setIfInBounds_toArray, List.set_cons_zero, List.set_cons_succ]
      refine wpAnyH_take (i := 12) (oi := { dst := some 47, op := Op.move (Operand.tmp 0), type := 94, pos := "l10_bloom.go:73", after := #[], guard := none }) (v := ?_) rfl (by kernel_rfl) (by kernel_rfl) (by kernel_rfl) (fun _ _ _ h => h) (Or.inl ⟨by rfl, ?_⟩) hS0 ?_
      rotate_left
      · intro W hSw
        obtain ⟨_, c0, c1, c2, c3⟩ := hSw.1
        obtain ⟨_, d0, d1, d2, d3⟩ := hSw.2
        go_simp
        try with_reducible rfl
      simp only [Act.put, List.setIfInBounds_toArray, List.set_cons_zero, List.set_cons_succ]
      refine wpAnyH_take (i := 13) (oi := { dst := some 48, op := Op.nilCheck (Operand.tmp 47), type := 0, pos := "l10_bloom.go:73", after := #[{ on := 12, ground := Ground.data }], guard := none }) (v := ?_) rfl (by kernel_rfl) (by kernel_rfl) (by kernel_rfl) (fun _ _ _ h => h) (Or.inl ⟨by rfl, ?_⟩) hS0 ?_
      rotate_left
      · intro W hSw
        obtain ⟨_, c0, c1, c2, c3⟩ := hSw.1
        obtain ⟨_, d0, d1, d2, d3⟩ := hSw.2
        go_simp
        try with_reducible rfl
      simp only [Act.put, List.setIfInBounds_toArray, List.set_cons_zero, List.set_cons_succ]
      refine wpAnyH_take (i := 14) (oi := { dst := some 49, op := Op.fieldAddr 26 (Operand.tmp 48) 1, type := 0, pos := "l10_bloom.go:73", after := #[{ on := 13, ground := Ground.data }], guard := none }) (v := ?_) rfl (by kernel_rfl) (by kernel_rfl) (by kernel_rfl) (fun _ _ _ h => h) (Or.inl ⟨by rfl, ?_⟩) hS0 ?_
      rotate_left
      · intro W hSw
        obtain ⟨_, c0, c1, c2, c3⟩ := hSw.1
        obtain ⟨_, d0, d1, d2, d3⟩ := hSw.2
        go_simp
        try with_reducible rfl
      simp only [Act.put, List.setIfInBounds_toArray, List.set_cons_zero, List.set_cons_succ]
      refine wpAnyH_take (i := 15) (oi := { dst := some 50, op := Op.load 3 (Operand.tmp 49), type := 3, pos := "l10_bloom.go:73", after := #[{ on := 14, ground := Ground.data }], guard := none }) (v := ?_) rfl (by kernel_rfl) (by kernel_rfl) (by kernel_rfl) (fun _ _ _ h => h) (Or.inl ⟨by rfl, ?_⟩) hS0 ?_
      rotate_left
      · intro W hSw
        obtain ⟨_, c0, c1, c2, c3⟩ := hSw.1
        obtain ⟨_, d0, d1, d2, d3⟩ := hSw.2
        go_simp
        try with_reducible rfl
      simp only [Act.put, List.setIfInBounds_toArray, List.set_cons_zero, List.set_cons_succ]
      refine wpAnyH_take (i := 16) (oi := { dst := some 51, op := Op.binOp BinOp.rem 3 (Operand.tmp 46) (Operand.tmp 50) 3, type := 3, pos := "l10_bloom.go:73", after := #[{ on := 11, ground := Ground.data }, { on := 15, ground := Ground.data }], guard := none }) (v := ?_) rfl (by kernel_rfl) (by kernel_rfl) (by kernel_rfl) (fun _ _ _ h => h) (Or.inl ⟨by rfl, ?_⟩) hS0 ?_
      rotate_left
      · intro W hSw
        obtain ⟨_, c0, c1, c2, c3⟩ := hSw.1
        obtain ⟨_, d0, d1, d2, d3⟩ := hSw.2
        go_simp
        try with_reducible rfl
      simp only [Act.put, List.setIfInBounds_toArray, List.set_cons_zero, List.set_cons_succ]
      refine wpAnyH_one (i := 17) (by kernel_rfl) ?_
      refine wpOp_step (o := { dst := some 52, op := Op.call { callee := Callee.value (Operand.func 58), args := #[Operand.tmp 45, Operand.tmp 51], argTypes := #[73, 3] }, type := 4, pos := "l10_bloom.go:73", after := #[{ on := 10, ground := Ground.data }, { on := 16, ground := Ground.data }], guard := none }) rfl fun K' hK => step_enterW (by rfl) 58 #[.pointer (some ⟨g, i, none⟩), .int .i64 (j : Int)] (by go_simp) ((unhide K1).mono ?_)
      rintro e w6 ⟨rfl, hw6⟩
      have hw7 := hw6.symm
      clear hw6
      subst hw7
      refine ⟨_, rfl, hK _ _ ⟨hS0, ?_⟩⟩
      simp only [Act.put, List.setIfInBounds_toArray, List.set_cons_zero, List.set_cons_succ]
      refine wpAnyH_take (i := 18) (oi := { dst := some 53, op := Op.indexAddr 24 (Operand.tmp 36) (Operand.tmp 37), type := 0, pos := "l10_bloom.go:73", after := #[{ on := 1, ground := Ground.data }, { on := 2, ground := Ground.data }, { on := 0, ground := Ground.phase }, { on := 1, ground := Ground.phase }, { on := 2, ground := Ground.phase }, { on := 3, ground := Ground.phase }, { on := 4, ground := Ground.phase }, { on := 5, ground := Ground.phase }, { on := 6, ground := Ground.phase }, { on := 7, ground := Ground.phase }, { on := 8, ground := Ground.phase }, { on := 9, ground := Ground.phase }, { on := 10, ground := Ground.phase }, { on := 11, ground := Ground.phase }, { on := 12, ground := Ground.phase }, { on := 13, ground := Ground.phase }, { on := 14, ground := Ground.phase }, { on := 15, ground := Ground.phase }, { on := 16, ground := Ground.phase }, { on := 17, ground := Ground.phase }], guard := none }) (v := ?_) rfl (by kernel_rfl) (by kernel_rfl) (by kernel_rfl) (fun _ _ _ h => h) (Or.inl ⟨by rfl, ?_⟩) hS0 ?_
      rotate_left
      · intro W hSw
        obtain ⟨_, c0, c1, c2, c3⟩ := hSw.1
        obtain ⟨_, d0, d1, d2, d3⟩ := hSw.2
        go_simp
        try with_reducible rfl
      simp only [Act.put, List.setIfInBounds_toArray, List.set_cons_zero, List.set_cons_succ]
      have p1 := unhide P1
      have p2 := unhide P2
      have z6 : BC q p (M : Int) (.slice A n ca) b (({ wr with drawn := wr.drawn + 1 } : World).setCell ⟨gB, k, none⟩ (.bool fb)) ∧ BC gX p (M : Int) (.slice Ar n cr) (.slice (some ⟨gB, 0, none⟩) m m) (({ wr with drawn := wr.drawn + 1 } : World).setCell ⟨gB, k, none⟩ (.bool fb)) := ⟨hS0.1.set (Ne.symm (unhide HQB)), hS0.2.set (Ne.symm (unhide NXB))⟩
      refine wpAnyH_one (i := 19) (by kernel_rfl) ?_
      refine wpOp_step (o := { dst := none, op := Op.store 4 (Operand.tmp 53) (Operand.tmp 52), type := 0, pos := "l10_bloom.go:73", after := #[{ on := 18, ground := Ground.data }, { on := 17, ground := Ground.data }, { on := 17, ground := Ground.chain }, { on := 0, ground := Ground.phase }, { on := 1, ground := Ground.phase }, { on := 2, ground := Ground.phase }, { on := 3, ground := Ground.phase }, { on := 4, ground := Ground.phase }, { on := 5, ground := Ground.phase }, { on := 6, ground := Ground.phase }, { on := 7, ground := Ground.phase }, { on := 8, ground := Ground.phase }, { on := 9, ground := Ground.phase }, { on := 10, ground := Ground.phase }, { on := 11, ground := Ground.phase }, { on := 12, ground := Ground.phase }, { on := 13, ground := Ground.phase }, { on := 14, ground := Ground.phase }, { on := 15, ground := Ground.phase }, { on := 16, ground := Ground.phase }, { on := 17, ground := Ground.phase }], guard := none }) rfl fun K' hK => step_skipW (by rfl) (({ wr with drawn := wr.drawn + 1 } : World).setCell ⟨gB, k, none⟩ (.bool fb)) (by go_simp) ?_
      refine hK _ _ ⟨z6, ?_⟩
      try simp only [Act.put]
      refine wpAnyH_done (by kernel_rfl) ?_ _
      clear z6 hS0 p1 p2
      have P4 : Hid ((({ wr with drawn := wr.drawn + 1 } : World).setCell ⟨gB, k, none⟩ (.bool fb)).heap[gB]? = some (bolO (mixG (bitsOf M n f) (List.replicate m false) (k + 1)) [])) := P3
      have L4 : Hid (Lone gB W5 (({ wr with drawn := wr.drawn + 1 } : World).setCell ⟨gB, k, none⟩ (.bool fb))) := hide ⟨(unhide L3).os, (unhide L3).tape, (unhide L3).output, (unhide L3).size, (unhide L3).block⟩
      clear P3 L3
      generalize ({ wr with drawn := wr.drawn + 1 } : World).setCell ⟨gB, k, none⟩ (.bool fb) = w7 at *
      go_wp2
      go_roundw
      case rel => exact ⟨k + 1, unhide HJ, by go_num, unhide P4, unhide L4⟩
      case measure => have := unhide HJ; simp [intOf]; omega
    · obtain rfl : k = m := by omega
      have hm := mixG_all (bitsOf M n f) (List.replicate k false) HBL
      rw [List.length_replicate] at hm
      rw [hm] at ho
      have hw5 := unhide L5
      have hs0 := unhide S0
      have nx : wr.heap[gX]? = some (.cells #[.int .i64 p, .int .i64 (M : Int), .slice Ar n cr, .slice (some ⟨gB, 0, none⟩) k k] 26 (0, 0)) := (hlo.block gX (unhide X5).lt (unhide NXB)).trans (unhide NX)
      have nn : wr.heap[w.heap.size]? = some (.cells #[.int .i64 0, .int .i64 0, .slice none 0 0, .slice none 0 0] 26 (0, 0)) := (hlo.block w.heap.size (by omega) (by have := unhide LB; omega)).trans (unhide N5)
      have OA := hide ((unhide O5).loneN hlo (fun g h => Ne.symm (unhide NA g h)))
      have HO := hide ho
      have NN := hide nn
      have HL := hide hlo
      obtain ⟨_, c0, c1, c2, c3⟩ := bc_row nx
      have p0 : wr.cell? ⟨w.heap.size, 0, none⟩ = some (.int .i64 0) := row_cell nn
      have p1 : wr.cell? ⟨w.heap.size, 1, none⟩ = some (.int .i64 0) := row_cell nn
      have p2 : wr.cell? ⟨w.heap.size, 2, none⟩ = some (.slice none 0 0) := row_cell nn
      have p3 : wr.cell? ⟨w.heap.size, 3, none⟩ = some (.slice none 0 0) := row_cell nn
      have y0 : wr.frozen? ⟨w.heap.size, 0, none⟩ = false := row_free nn
      have y1 : wr.frozen? ⟨w.heap.size, 1, none⟩ = false := row_free nn
      have y2 : wr.frozen? ⟨w.heap.size, 2, none⟩ = false := row_free nn
      have y3 : wr.frozen? ⟨w.heap.size, 3, none⟩ = false := row_free nn
      clear hm ho hlo hlt nx nn HBL
      go_wp2
      refine bodyPost_ret (v := bloV p (M : Int) (.slice Ar n cr) (.slice (some ⟨gB, 0, none⟩) k k)) ?_ rfl ⟨_, rfl, ⟨_, _, rfl, ?_, ?_, ?_⟩, ?_⟩
      · exact results_cell_row rfl _ _ w.heap.size 26 _ (0, 0) _ rfl (row_set (i := 3) (v := .slice (some ⟨gB, 0, none⟩) k k) (row_set (i := 2) (v := .slice Ar n cr) (row_set (i := 1) (v := .int .i64 (M : Int)) (row_set (i := 0) (v := .int .i64 p) (unhide NN))))) Try.underlying26 rfl (by kernel_rfl)
      · refine (((((unhide OA).lone (lone_setCell w.heap.size 0 _ _) (by omega)).lone (lone_setCell w.heap.size 1 _ _) (by omega)).lone (lone_setCell w.heap.size 2 _ _) (by omega)).lone (lone_setCell w.heap.size 3 _ _) (by omega)).wide (by omega) ?_
        rw [size_set, size_set, size_set, size_set]
        exact (unhide HL).size
      · refine .inr ⟨gB, k, [], ?_, by have := unhide LB; omega, ?_, ?_, ?_⟩
        · rw [bitsOf_len, unhide HM]
        · rw [size_set, size_set, size_set, size_set]
          exact (Array.getElem?_eq_some_iff.1 (unhide HO)).1
        · have hne : w.heap.size ≠ gB := by have := unhide LB; omega
          exact row_set_other (row_set_other (row_set_other (row_set_other (unhide HO) hne) hne) hne) hne
        · rw [bitsOf_len, unhide HM]; exact Nat.le_refl _
      · intro g' h1 h2
        cases h2
        exact unhide NA _ h1 rfl
      · have hb := (unhide HL).below (unhide B5) (by have := unhide LB; omega) (by omega)
        exact bl_set (bl_set (bl_set (bl_set hb (Nat.le_refl _)) (Nat.le_refl _)) (Nat.le_refl _)) (Nat.le_refl _)
end Go.Proofs.Ythckgccfjpgbaaa
